/-
  The contracts of mac.Label and mac.Derive.
-/
import Derived.Test.YtdjhempfpgcigaaDoorExpand
namespace Go.Proofs.YtdjhempfpgcigaaDoor
open Go.RowKit

def tls13 : List UInt8 := [116, 108, 115, 49, 51, 32]
/-- What Label expands by. -/
def labelInfo (label context : List UInt8) (n : Nat) : List UInt8 :=
  [UInt8.ofNat (n / 256), UInt8.ofNat n, UInt8.ofNat (6 + label.length)] ++ tls13 ++ label ++ [UInt8.ofNat context.length] ++ context

set_option maxRecDepth 100000 in
set_option maxHeartbeats 4000000 in
theorem label_bad (ks : List Value) (A : Option Addr) (c : Nat) (label context : List UInt8) (n : Int) (w : World) (h : 249 < label.length ∨ 255 < context.length) :
    Calls Tryd.prog 27 #[.agg ks.toArray, .string ⟨label.toArray⟩, .slice A context.length c, .int .i64 n] w fun e w' => e = .returned (.tuple #[.slice none 0 0, .int .i64 1]) ∧ Below w.heap.size w w' := by
  go_enter Tryd.func27, Tryd.ntmps27
  by_cases h1 : 249 < label.length
  · have hd : decide ((249 : Int) < (label.length : Int)) = true := by simp; omega
    go_wp2
    go_ret2
    exact ⟨rfl, (Below.refl _ _).alloc (Nat.le_refl _) _⟩
  · have hd : decide ((249 : Int) < (label.length : Int)) = false := by simp; omega
    have hd2 : decide ((255 : Int) < (context.length : Int)) = true := by simp; omega
    go_wp2
    go_ret2
    exact ⟨rfl, (Below.refl _ _).alloc (Nat.le_refl _) _⟩

set_option maxRecDepth 100000 in
set_option maxHeartbeats 4000000 in
theorem label_any (A : Option Addr) (c n : Nat) (key label context : List UInt8) (w : World) (hk : key.length = 32) (hi : In w w.heap.size A c context) (hl : label.length ≤ 249) (hc : context.length ≤ 255) (hn : n ≤ 8160) (ht : Tabs w) :
    Calls Tryd.prog 27 #[.agg (key.map B8).toArray, .string ⟨label.toArray⟩, .slice A context.length c, .int .i64 (n : Int)] w fun e w' => ∃ g, e = .returned (.tuple #[.slice (some ⟨g, 0, none⟩) n n, .int .i64 0]) ∧ w.heap.size ≤ g ∧ Blk w' g 5 ((expand key (labelInfo label context n) n).map B8) ∧ Below w.heap.size w w' := by
  have hd : decide ((249 : Int) < (label.length : Int)) = false := by simp; omega
  have hd2 : decide ((255 : Int) < (context.length : Int)) = false := by simp; omega
  have HK := Lib.hid hk
  clear hk
  go_enter Tryd.func27, Tryd.ntmps27
  obtain ⟨h3, hh3⟩ : ∃ h3 : List UInt8, h3 = [UInt8.ofNat (n / 256), UInt8.ofNat n, UInt8.ofNat (6 + label.length)] := ⟨_, rfl⟩
  have hl3 : h3.length = 3 := by rw [hh3]; rfl
  have hb00 : ∀ X Y : Obj, Below w.heap.size w ((w.alloc X).alloc Y) := fun X Y => ((Below.refl _ _).alloc (Nat.le_refl _) _).alloc (by simp) _
  have hB0 : Buf ((w.alloc (.cells (key.map B8).toArray 22)).alloc (.cells #[.int .u8 ((n : Int) / 256), .int .u8 ((n : Int) % 256), .int .u8 (6 + (label.length : Int))] 5)) (w.heap.size + 1) (some ⟨w.heap.size + 1, 0, none⟩) 3 3 h3 := by
    have := Buf.made (w := w.alloc (.cells (key.map B8).toArray 22)) (base := w.heap.size + 1) (n := 3) (c := 3) (bs := h3) #[.int .u8 ((n : Int) / 256), .int .u8 ((n : Int) % 256), .int .u8 (6 + (label.length : Int))] 5 0 0 (by simp) hl3 (Nat.le_refl _) (by decide) rfl (.inr rfl) (fun j hj => by
      obtain rfl | rfl | rfl : j = 0 ∨ j = 1 ∨ j = 2 := by omega
      · rw [hh3]; simp; omega
      · rw [hh3]; simp
      · rw [hh3]; simp; omega)
    rw [size_alloc] at this
    exact this
  have HH3 := Lib.hid hh3
  clear hh3 hl3
  have hcn : (context.length : Int) = ((UInt8.ofNat context.length).toNat : Int) := by simp; omega
  have HCN := Lib.hid hcn
  clear hcn
  have hz0 : ∀ X Y : Obj, w.heap.size + 1 ≤ ((w.alloc X).alloc Y).heap.size := fun X Y => by rw [size_alloc, size_alloc]; omega
  go_wp2_with (first
    | ((with_reducible refine (?_ : wpList _ _ _ (Oper.mk (some 30) _ _ _ _ _ :: _) _ _)); go_loud (refine wpList_append_far rfl (.tmp 29) _ 9 rfl (w.heap.size + 1) _ 3 3 h3 tls13 _ rfl hB0 rfl (src_string _ tls13) (by decide) (hz0 _ _) 9 (by decide) ?_); intro A1 c1 w1 hB1 hg1 _;
       have hb1 := below_own (hb00 _ _) hB0 hg1 (Nat.le_succ _) (hb00 _ _).size; have hz1 := Nat.le_trans (hz0 _ _) hg1.size; have hK1 := ((Blk.new_of w 22 _ (key.map B8) rfl).alloc (.cells #[.int .u8 ((n : Int) / 256), .int .u8 ((n : Int) % 256), .int .u8 (6 + (label.length : Int))] 5)).grown hg1 (ownOf_fresh hB0 (Nat.lt_succ_self _)); clear hg1 hB0 hb00 hz0)
    | ((with_reducible refine (?_ : wpList _ _ _ (Oper.mk (some 33) _ _ _ _ _ :: _) _ _)); go_loud (refine wpList_append_far rfl (.tmp 31) (.tmp 32) 9 rfl (w.heap.size + 1) _ 9 _ (h3 ++ tls13) label _ rfl hB1 rfl (src_string _ label) (by omega) hz1 (9 + label.length) rfl ?_); intro A2 c2 w2 hB2 hg2 _;
       have hb2 := below_own hb1 hB1 hg2 (Nat.le_succ _) hb1.size; have hz2 := Nat.le_trans hz1 hg2.size; have hK2 := hK1.grown hg2 (ownOf_fresh hB1 (Nat.lt_succ_self _)); clear hg2 hB1 hb1 hz1 hK1)
    | ((with_reducible refine (?_ : wpList _ _ _ (Oper.mk (some 39) _ _ _ _ _ :: _) _ _)); go_loud (refine wpList_append_far rfl (.tmp 34) (.tmp 38) 26 rfl (w.heap.size + 1) _ (9 + label.length) _ (h3 ++ tls13 ++ label) [UInt8.ofNat context.length] _ rfl (hB2.alloc _) rfl (src_byte ((new_cell _ _ _).trans (congrArg (fun z => some (Value.int .u8 z)) HCN.out))) (by simp only [List.length_cons, List.length_nil]; omega) (le_alloc hz2 _) (9 + label.length + 1) rfl ?_); intro A3 c3 w3 hB3 hg3 _;
       have hb3 := below_own (hb2.alloc hb2.size _) (hB2.alloc _) hg3 (Nat.le_succ _) (le_alloc hb2.size _); have hz3 := Nat.le_trans (le_alloc hz2 _) hg3.size; have hK3 := (hK2.alloc _).grown hg3 (ownOf_fresh hB2 (Nat.lt_succ_self _)); clear hg3 hB2 hb2 hz2 hK2)
    | ((with_reducible refine (?_ : wpList _ _ _ (Oper.mk (some 42) _ _ _ _ _ :: _) _ _)); go_loud (refine wpList_append_far rfl (.tmp 40) (.tmp 41) 26 rfl (w.heap.size + 1) _ (9 + label.length + 1) _ (h3 ++ tls13 ++ label ++ [UInt8.ofNat context.length]) context _ rfl hB3 rfl (src_in' ((hi.up hb3).src (Nat.le_refl _))) (by omega) hz3 (9 + label.length + 1 + context.length) rfl ?_); intro A4 c4 w4 hB4 hg4 _;
       have hb4 := below_own hb3 hB3 hg4 (Nat.le_succ _) hb3.size; have hz4 := Nat.le_trans hz3 hg4.size; have hK4 := hK3.grown hg4 (ownOf_fresh hB3 (Nat.lt_succ_self _)); clear hg4 hB3 hb3 hz3 hK3)
    | ((with_reducible refine (?_ : wpList _ _ _ (Oper.mk (some 43) _ _ _ _ _ :: _) _ _)); go_loud (refine wpList_load_blk rfl 22 (.tmp 4) rfl w.heap.size rfl 22 _ _ hK4 Tryd.underlying22 rfl (info32.trans (by rw [List.length_map, HK.out])) ?_)))
  have hin : h3 ++ tls13 ++ label ++ [UInt8.ofNat context.length] ++ context = labelInfo label context n := by rw [HH3.out]; rfl
  rw [hin] at hB4
  have hil : (labelInfo label context n).length = 9 + label.length + 1 + context.length := hB4.1
  have he := expand_any A4 c4 n key (labelInfo label context n) w4 HK.out (hB4.toIn (Nat.le_refl _)) (by omega) hn (ht.below hb4)
  rw [hil] at he
  refine he.mono ?_
  rintro e w5 ⟨g, rfl, hg, hR, hb5⟩
  go_wp2
  go_ret2
  exact ⟨g, rfl, by have := hb4.size; omega, hR, hb4.trans (hb5.mono hb4.size)⟩
end Go.Proofs.YtdjhempfpgcigaaDoor
