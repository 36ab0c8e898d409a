/-
  The contract of old.Mac: HMAC by MD5 of all keys and parts.
-/
import Derived.Test.YtkiogpnjkmdmgaaDoorQPads
import Derived.Test.YtkiogpnjkmdmgaaDoorMac
namespace Go.Proofs.YtkiogpnjkmdmgaaDoor
open Go.RowKit

/-- A mark by a key, by MD5. -/
def hmacQ (key m : List UInt8) : List UInt8 := md5 (xorTo 92 (padKeyQ key) 64 ++ md5 (xorTo 54 (padKeyQ key) 64 ++ m))
theorem hmacQ_length (key m : List UInt8) : (hmacQ key m).length = 16 := md5_length _

set_option maxRecDepth 100000 in
set_option maxHeartbeats 1000000 in
theorem qMac_any (A A' : Option Addr) (c c' B : Nat) (key : List UInt8) (ps : List (List UInt8)) (w : World) (hB : B ≤ w.heap.size) (ik : In w B A c key) (hn : key.length < 549755813888) (ht : TabsQ w)
    (hps : ps.flatten.length < 549755813000) (hpc : ps.length ≤ c') (hcm : c' ≤ 9223372036854775807) (hA : ∀ g, w.heap.size ≤ g → Parts w g A' ps) :
    Calls Tryd.prog 24 #[.slice A key.length c, .slice A' ps.length c'] w fun e w' => e = .returned (.agg ((hmacQ key ps.flatten).map B8).toArray) ∧ Below w.heap.size w w' := by
  have ht0 := ht.lt0
  have ht1 := ht.lt1
  go_enter Tryd.func24, Tryd.ntmps24
  go_wp2_with fail
  refine (qpads_any A c B key _ (by simp <;> omega) (ik.below ((Below.refl _ _).alloc hB _)) hn (ht.below ((Below.refl _ _).alloc (Nat.le_refl _) _))).mono ?_
  rintro e w1 ⟨rfl, hb1⟩
  have hR1 := (Blk.new_of w 41 _ ((List.replicate 16 (0 : UInt8)).map B8) (by rfl)).below hb1 (by simp)
  replace hb1 := ((Below.refl w.heap.size w).alloc (Nat.le_refl _) _).trans (hb1.mono (by simp))
  have hz1 : w.heap.size < w1.heap.size := hR1.lt
  have hl1 := xorTo_length 54 (padKeyQ key) 64
  have hl2 := xorTo_length 92 (padKeyQ key) 64
  have hm : hmacQ key ps.flatten = md5 (xorTo 92 (padKeyQ key) 64 ++ md5 (xorTo 54 (padKeyQ key) 64 ++ ps.flatten)) := rfl
  obtain ⟨mk, hmk0⟩ : ∃ mk, mk = hmacQ key ps.flatten := ⟨_, rfl⟩
  rw [← hmk0] at hm
  have HMK := Lib.hid hmk0
  clear hmk0
  generalize xorTo 54 (padKeyQ key) 64 = xi at *
  generalize xorTo 92 (padKeyQ key) 64 = xo at *
  have HL1 := Lib.hid hl1
  have HL2 := Lib.hid hl2
  have HM := Lib.hid hm
  clear hl1 hl2 hm
  go_wp2_with (first
    | (refine wpList_store_blk rfl 49 (.tmp 5) (.tmp 14) rfl rfl w1.heap.size _ rfl rfl 49 _ ((Blk.new_of w1 49 _ ((List.replicate 64 (0 : UInt8)).map B8) (by rfl)).alloc _) (info64b.trans (by rw [List.length_map, HL1.out])) (by rw [List.length_map, List.length_map, HL1.out]; rfl) (one8 _) ?_; intro w2 hI2 hg2; have hO2 := (Blk.new2_of w1 _ 49 _ ((List.replicate 64 (0 : UInt8)).map B8) (by rfl)).grown hg2 (by simp); have hb2 := below_new ((hb1.alloc (by omega) _).alloc (by simp <;> omega) _) hg2 (by omega) (by simp; omega); have hR2 := ((hR1.alloc _).alloc _).grown hg2 (by simp <;> omega); clear hg2)
    | (refine wpList_store_blk rfl 49 (.tmp 6) (.tmp 15) rfl rfl (w1.heap.size + 1) _ rfl rfl 49 _ hO2 (info64b.trans (by rw [List.length_map, HL2.out])) (by rw [List.length_map, List.length_map, HL2.out]; rfl) (one8 _) ?_; intro w3 hO3 hg3; have hI3 := hI2.grown hg3 (by simp); have hb3 := below_new hb2 hg3 (by omega) (hb2.size); have hR3 := hR2.grown hg3 (by simp <;> omega); clear hg3 hI2 hO2 hb2 hR2))
  have hz3 : w1.heap.size + 1 < w3.heap.size := hO3.lt
  refine (begun_any _).mono ?_
  rintro e w4 ⟨rfl, hs4, hb4⟩
  have hI4 := hI3.below hb4 (by omega)
  have hO4 := hO3.below hb4 (by omega)
  have hR4 := hR3.below hb4 (by omega)
  replace hb4 := hb3.trans (hb4.mono hb3.size)
  obtain ⟨G, hG⟩ : ∃ G, G = w3.heap.size := ⟨_, rfl⟩
  rw [← hG] at hs4 hz3 ⊢
  clear hG hI3 hO3 hR3 hb3
  have hl4 : G < w4.heap.size := by obtain ⟨_, _, _, h⟩ := hs4; exact h.lt
  have hPA := (hA G (by omega))
  have hsrc : Src w4 G (some ⟨w1.heap.size, 0, none⟩) xi := fun _ => ⟨w1.heap.size, 0, rfl, by omega, fun j hj => by rw [Nat.zero_add]; exact hI4.at8 j hj⟩
  have P0 := qput_any G 64 _ 72 [] xi w4 (by simp; rw [HL1.out]; omega) (by rw [HL1.out]; omega) (by omega) hsrc hs4 (ht.below hb4) (by omega) (by omega)
  rw [HL1.out] at P0
  go_wp2_with fail
  refine P0.mono ?_
  rintro e w5 ⟨rfl, hg5, hh5⟩
  have hO5 := hO4.grown hg5 (by simp <;> omega)
  have hR5 := hR4.grown hg5 (by simp <;> omega)
  have hb5 := below_new hb4 hg5 (by omega) (by omega)
  have hl5 : G < w5.heap.size := by obtain ⟨_, _, _, h⟩ := hh5; exact h.lt
  have ht5 := ht.below hb5
  replace hPA := hPA.keep (grown_of_below hb5 _)
  simp only [List.nil_append] at hh5
  clear hg5 P0 hsrc hs4 hO4 hR4 hI4 hb4 hl4 hA
  go_wp2
  go_loopw [22] (fun i wr => ∃ k : Nat, k ≤ ps.length ∧ i = .int .i64 k ∧ HeldQ wr G 72 (xi ++ (ps.take k).flatten) ∧ Parts wr G A' ps ∧ TabsQ wr ∧ Blk wr (w1.heap.size + 1) 49 (xo.map B8) ∧ Blk wr w.heap.size 41 ((List.replicate 16 (0 : UInt8)).map B8) ∧ Below w.heap.size w wr) (fun i _ => ps.length - (intOf i).toNat)
  case atStart => exact ⟨0, by omega, rfl, by rw [List.take_zero, List.flatten_nil, List.append_nil]; exact hh5, hPA, ht5, hO5, hR5, hb5⟩
  case round =>
   obtain ⟨k, hk, rfl, hH', hA', ht', hO6, hR6, hb6⟩ := hrel
   clear hh5 hPA ht5 hO5 hR5 hb5
   by_cases hlt : k < ps.length
   · have hd : decide ((k : Int) < (ps.length : Int)) = true := by simp; omega
     obtain ⟨gp, op, rfl, hne, hj⟩ := hA' (by omega)
     obtain ⟨Aj, cj, hc, h1, h2, h3⟩ := hj k hlt
     have hfl : (ps.take (k + 1)).flatten = (ps.take k).flatten ++ ps.getD k [] := by
       rw [List.take_succ_eq_append_getElem hlt, List.flatten_append, List.getD_eq_getElem?_getD, List.getElem?_eq_getElem hlt]; simp
     have hle : (ps.take k).flatten.length + (ps.getD k []).length ≤ ps.flatten.length := by
       have h := congrArg List.length (congrArg List.flatten (List.take_append_drop (k + 1) ps))
       rw [List.flatten_append, List.length_append, hfl, List.length_append] at h
       omega
     obtain ⟨b, hb⟩ : ∃ b, b = ps.getD k [] := ⟨_, rfl⟩
     rw [← hb] at hc h1 h3 hfl hle
     have HF := Lib.hid hfl
     clear hfl hb hj
     have hl6 : G < wr.heap.size := by obtain ⟨_, _, _, h⟩ := hH'; exact h.lt
     have P := qput_any G cj Aj _ _ b wr (by rw [List.length_append, HL1.out]; omega) h1 h2 h3 hH' ht' (by omega) (by omega)
     go_wp2_with (go_at_call 35; with_reducible refine P.mono ?_; rintro e w7 ⟨rfl, hg7, hh7⟩)
     go_roundw
     case rel => exact ⟨k + 1, by omega, by go_num, by rw [HF.out, ← List.append_assoc]; exact hh7, hA'.keep hg7, ht'.grown hg7 (by omega) (by omega), hO6.grown hg7 (by simp <;> omega), hR6.grown hg7 (by simp <;> omega), below_new hb6 hg7 (by omega) hb6.size⟩
     case measure => simp [intOf]; omega
   · have hd : decide ((k : Int) < (ps.length : Int)) = false := by simp; omega
     rw [List.take_of_length_le (by omega)] at hH'
     have hl6 : G < wr.heap.size := by obtain ⟨_, _, _, h⟩ := hH'; exact h.lt
     have E := qend_any G 72 _ wr (by rw [List.length_append, HL1.out]; omega) hH' ht' (by omega) (by omega)
     have hsl := md5_length (xi ++ ps.flatten)
     obtain ⟨y, hy⟩ : ∃ y, y = md5 (xi ++ ps.flatten) := ⟨_, rfl⟩
     rw [← hy] at hsl E
     have HY := Lib.hid hy
     have HYL := Lib.hid hsl
     clear hy hsl hH' hA'
     go_wp2_with fail
     refine E.mono ?_
     rintro e w7 ⟨rfl, hg7⟩
     have hO7 := hO6.grown hg7 (by simp <;> omega)
     have hR7 := hR6.grown hg7 (by simp <;> omega)
     have hb7 := below_new hb6 hg7 (by omega) hb6.size
     have hz7 : G < w7.heap.size := Nat.lt_of_lt_of_le hl6 hg7.size
     have hz7b := hO7.lt
     have hz7c := hR7.lt
     clear hO6 hR6 hb6 E hg7 ht'
     go_wp2_with (refine wpList_store_blk rfl 41 (.tmp 10) (.tmp 31) rfl rfl w7.heap.size _ rfl rfl 41 _ (Blk.new_of w7 41 _ ((List.replicate 16 (0 : UInt8)).map B8) (by rfl)) (infoH.trans (by rw [List.length_map, HYL.out])) (by rw [List.length_map, List.length_map, HYL.out]; rfl) (one8 _) ?_; intro w8 hS8 hg8)
     have hO8 := (hO7.alloc _).grown hg8 (by simp <;> omega)
     have hR8 := (hR7.alloc _).grown hg8 (by simp <;> omega)
     have hb8 := below_new (hb7.alloc hb7.size _) hg8 (by omega) (by simp <;> omega)
     have hz8 : w7.heap.size < w8.heap.size := hS8.lt
     clear hg8 hO7 hR7 hb7
     go_still_tail 2, (by kernel_rfl)
     change wpList _ _ _ _ _ w8.drew
     replace hO8 := hO8.drew
     replace hR8 := hR8.drew
     replace hS8 := hS8.drew
     replace hb8 : Below w.heap.size w w8.drew := below_drewN hb8 1
     replace hz8 : w7.heap.size < w8.drew.heap.size := hz8
     generalize w8.drew = w8 at *
     have hP8 : ∀ g, (w8.alloc (.cells #[.slice (some ⟨w1.heap.size + 1, 0, none⟩) 64 64, .slice (some ⟨w7.heap.size, 0, none⟩) 16 16] 27)).heap.size ≤ g → Parts (w8.alloc (.cells #[.slice (some ⟨w1.heap.size + 1, 0, none⟩) 64 64, .slice (some ⟨w7.heap.size, 0, none⟩) 16 16] 27)) g (some ⟨w8.heap.size, 0, none⟩) [xo, y] := fun g hg => by
       rw [size_alloc] at hg
       have h := parts2 (w := w8) (B := g) (g := g) 27 (In.of_blk (B := g) hO8 (by omega) (by rw [HL2.out]; omega)) (In.of_blk (B := g) hS8 (by omega) (by rw [HYL.out]; omega)) (by omega) (Nat.le_refl _)
       rwa [HL2.out, HYL.out] at h
     have hT8 : TabsQ (w8.alloc (.cells #[.slice (some ⟨w1.heap.size + 1, 0, none⟩) 64 64, .slice (some ⟨w7.heap.size, 0, none⟩) 16 16] 27)) := (ht.below hb8).below ((Below.refl _ _).alloc (Nat.le_refl _) _)
     go_wp2_with fail
     refine (qOf_any 2 _ [xo, y] _ (by simp [HL2.out, HYL.out]) (by simp) (by omega) hP8 hT8).mono ?_
     rintro e w9 ⟨rfl, hb9⟩
     have hR9 := (hR8.alloc _).below hb9 (by simp <;> omega)
     have hb9' := (hb8.alloc hb8.size _).trans (hb9.mono (by simp <;> omega))
     have hmk : md5 ([xo, y].flatten) = mk := by rw [HM.out, HY.out]; simp
     rw [hmk]
     have hml : mk.length = 16 := by rw [← hmk]; exact md5_length _
     go_wp2_with (refine wpList_store_blk rfl 41 (.tmp 4) (.tmp 35) rfl rfl w.heap.size _ rfl rfl 41 _ hR9 (infoH.trans (by rw [List.length_map, hml])) (by rw [List.length_map, List.length_map, hml]; rfl) (one8 _) ?_; intro w10 hR10 hg10)
     refine bodyPost_ret (v := .agg _) (results_cell_row rfl _ _ w.heap.size 41 _ (0, 0) _ rfl hR10.raw Tryd.underlying41 rfl (infoH.trans (by simp [hml]))) rfl ⟨by rw [HMK.out], below_new hb9' hg10 (Nat.le_refl _) hb9'.size⟩
end Go.Proofs.YtkiogpnjkmdmgaaDoor
