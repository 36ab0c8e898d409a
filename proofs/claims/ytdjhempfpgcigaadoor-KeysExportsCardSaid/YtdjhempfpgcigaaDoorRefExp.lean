/-
  The contracts of the document's Expand and Label.
-/
import Derived.Test.YtdjhempfpgcigaaDoorRefMac
import Derived.Test.YtdjhempfpgcigaaDoorLabel
import Derived.Test.YtdjhempfpgcigaaDoorDerives0
namespace Go.Proofs.YtdjhempfpgcigaaDoor
open Go.RowKit

set_option maxRecDepth 100000 in
set_option maxHeartbeats 4000000 in
theorem refExpand_bad (key info : List UInt8) (n : Int) (w : World) (hn : n < 0 ∨ 8160 < n) :
    Calls Tryd.prog 51 #[.string ⟨key.toArray⟩, .string ⟨info.toArray⟩, .int .i64 n] w fun e w' => e = .returned (.tuple #[.string ⟨#[]⟩, .int .i64 1]) ∧ Below w.heap.size w w' := by
  go_enter Tryd.func51, Tryd.ntmps51
  rcases hn with hn | hn
  · have hd : decide (n < 0) = true := by simp; omega
    go_wp2
    go_ret2
    exact ⟨rfl, Below.refl _ _⟩
  · have hd : decide (n < 0) = false := by simp; omega
    have hd2 : decide (8160 < n) = true := by simp; omega
    go_wp2
    go_ret2
    exact ⟨rfl, Below.refl _ _⟩

theorem take_all_exp (key info : List UInt8) (n k : Nat) (h1 : n ≤ 32 * k) (h2 : k = 0 ∨ 32 * (k - 1) < n) : (tTo key info k).take n = expand key info n := by
  have hk : k = (n + 31) / 32 := by omega
  unfold expand
  rw [hk]
theorem extract_str (T : List UInt8) (n : Nat) : (⟨T.toArray⟩ : ByteArray).extract 0 n = ⟨(T.take n).toArray⟩ := by
  apply ByteArray.ext
  rw [ByteArray.data_extract]
  simp

set_option maxRecDepth 100000 in
set_option maxHeartbeats 4000000 in
theorem refExpand_any (n : Nat) (key info : List UInt8) (w : World) (hk : key.length < 100000) (hl : info.length < 100000) (hn : n ≤ 8160) :
    Calls Tryd.prog 51 #[.string ⟨key.toArray⟩, .string ⟨info.toArray⟩, .int .i64 (n : Int)] w fun e w' => e = .returned (.tuple #[.string ⟨(expand key info n).toArray⟩, .int .i64 0]) ∧ Below w.heap.size w w' := by
  have hd : decide ((n : Int) < 0) = false := by simp
  have hd2 : decide ((8160 : Int) < (n : Int)) = false := by simp; omega
  go_enter Tryd.func51, Tryd.ntmps51
  go_wp2
  clear hd hd2
  go_loopw [8, 9, 10] (fun al t i wr => ∃ k : Nat, i = .int .i64 ((k + 1 : Nat) : Int) ∧ al = .string ⟨(tTo key info k).toArray⟩ ∧ t = .string ⟨(tAt key info k).toArray⟩ ∧ (k = 0 ∨ 32 * (k - 1) < n) ∧ Below w.heap.size w wr) (fun _ _ i _ => n + 64 - 32 * (intOf i).toNat)
  case atStart => exact ⟨0, rfl, rfl, rfl, .inl rfl, Below.refl _ _⟩
  case round =>
    obtain ⟨k, rfl, rfl, rfl, hkn, hb⟩ := hrel
    have hTl := tTo_length key info k
    have htl : (tAt key info k).length ≤ 32 := by cases k with | zero => simp [tAt] | succ k => rw [tAt_length]; omega
    have HS : Hid (tTo key info (k + 1) = tTo key info k ++ hmac key (tAt key info k ++ info ++ [UInt8.ofNat (k + 1)])) := (show _ = _ from rfl)
    have HA : Hid (tAt key info (k + 1) = hmac key (tAt key info k ++ info ++ [UInt8.ofNat (k + 1)])) := (show _ = _ from rfl)
    have HE := Lib.hid (fun h1 => take_all_exp key info n k h1 hkn)
    generalize tTo key info k = T at *
    generalize tAt key info k = l at *
    by_cases hlt : 32 * k < n
    · have hd1 : decide (T.length < n) = true := by simp; omega
      have hTl2 : T.length < 9000 := by omega
      have HTL := Lib.hid hTl
      clear hTl
      have hx : (k : Int) + 1 = ((UInt8.ofNat (k + 1)).toNat : Int) := by simp; omega
      obtain ⟨x, hxx⟩ : ∃ x, x = UInt8.ofNat (k + 1) := ⟨_, rfl⟩
      rw [← hxx] at HS HA hx
      have HX := Lib.hid hx
      clear hx hxx
      have hbs := hb.size
      have hcl1 : ¬ 9223372036854775807 < l.length + info.length := by omega
      have hcl2 : ¬ 9223372036854775807 < l.length + info.length + 1 := by omega
      obtain ⟨h, hh⟩ : ∃ h, h = hmac key (l ++ info ++ [x]) := ⟨_, rfl⟩
      have hhl : h.length = 32 := by rw [hh]; exact hmac_length _ _
      rw [← hh] at HS HA
      have hcl3 : ¬ 9223372036854775807 < T.length + h.length := by omega
      have hm := refMac_any key (l ++ info ++ [x]) (wr.alloc (.cells #[.int .u8 ((k : Int) + 1)] 5)) (by omega) (by simp; omega)
      rw [← hh] at hm
      have HM := Lib.hid hm
      have HHL := Lib.hid hhl
      clear hh hm hhl
      have hs1 : Src (wr.alloc (.cells #[.int .u8 ((k : Int) + 1)] 5)) (wr.heap.size + 1) (some ⟨wr.heap.size, 0, none⟩) [x] := fun _ => ⟨wr.heap.size, 0, rfl, by omega, fun j hj => by
        obtain rfl : j = 0 := by simpa using hj
        rw [HX.out]
        exact new_cell _ _ _⟩
      have HS1 := Lib.hid hs1
      clear hs1
      go_wp2_with (first
        | ((with_reducible refine (?_ : wpList _ _ _ (Oper.mk (some 30) _ _ _ _ _ :: _) _ _)); go_loud (refine wpList_string_of rfl (.tmp 29) rfl [x] (some ⟨wr.heap.size, 0, none⟩) 1 (wr.heap.size + 1) rfl HS1.out ?_))
        | (rw [bytes_append, bytes_append]; refine HM.out.mono ?_; rintro e w1 ⟨rfl, hb1⟩))
      go_roundw
      case rel =>
        have hb2 : Below wr.heap.size wr w1 := ((Below.refl _ _).alloc (Nat.le_refl _) _).trans (hb1.mono (by simp))
        exact ⟨k + 1, by go_num, by rw [bytes_append, HS.out], by rw [HA.out], .inr (by omega), hb.trans (hb2.mono hbs)⟩
      case measure => simp [intOf]; omega
    · have hd1 : decide (T.length < n) = false := by simp; omega
      have hTe := HE.out (by omega)
      have hnT : (n : Int) ≤ (T.length : Int) := by omega
      have hxs := extract_str T n
      rw [hTe] at hxs
      clear hTe
      go_wp2
      go_ret2
      exact ⟨rfl, hb⟩

/-- What is put ahead of a label. -/
def nBytes (n : Nat) : List UInt8 := [UInt8.ofNat (n / 256), UInt8.ofNat n]

set_option maxRecDepth 100000 in
set_option maxHeartbeats 4000000 in
theorem refLabel_bad (key label context : List UInt8) (n : Int) (w : World) (h : n < 0 ∨ 8160 < n ∨ 249 < label.length ∨ 255 < context.length) (hl : label.length < 549755813888) :
    Calls Tryd.prog 37 #[.string ⟨key.toArray⟩, .string ⟨label.toArray⟩, .string ⟨context.toArray⟩, .int .i64 n] w fun e w' => e = .returned (.tuple #[.string ⟨#[]⟩, .int .i64 1]) ∧ Below w.heap.size w w' := by
  have hcl : ¬ 9223372036854775807 < 6 + label.length := by omega
  go_enter Tryd.func37, Tryd.ntmps37
  by_cases h1 : n < 0
  · have hd : decide (n < 0) = true := by simp; omega
    go_wp2
    go_ret2
    exact ⟨rfl, Below.refl _ _⟩
  have hd : decide (n < 0) = false := by simp; omega
  by_cases h2 : 8160 < n
  · have hd2 : decide (8160 < n) = true := by simp; omega
    go_wp2
    go_ret2
    exact ⟨rfl, Below.refl _ _⟩
  have hd2 : decide (8160 < n) = false := by simp; omega
  by_cases h3 : 249 < label.length
  · have hd3 : decide ((255 : Int) < 6 + (label.length : Int)) = true := by simp; omega
    go_wp2
    go_ret2
    exact ⟨rfl, Below.refl _ _⟩
  have hd3 : decide ((255 : Int) < 6 + (label.length : Int)) = false := by simp; omega
  have hd4 : decide ((255 : Int) < (context.length : Int)) = true := by simp; omega
  go_wp2
  go_ret2
  exact ⟨rfl, Below.refl _ _⟩

theorem label_str (n : Nat) (label context : List UInt8) : (({ data := #[UInt8.ofNat (n / 256), UInt8.ofNat n, 6 + UInt8.ofNat label.length] } ++ ({ data := #[116, 108, 115, 49, 51, 32] } ++ { data := label.toArray }) ++ { data := #[UInt8.ofNat context.length] } ++ { data := context.toArray }) : ByteArray) = ⟨(labelInfo label context n).toArray⟩ := by
  apply ByteArray.ext
  simp [labelInfo, tls13]
set_option maxRecDepth 100000 in
set_option maxHeartbeats 4000000 in
theorem refLabel_any (n : Nat) (key label context : List UInt8) (w : World) (hk : key.length < 100000) (hn : n ≤ 8160) (hl : label.length ≤ 249) (hc : context.length ≤ 255) :
    Calls Tryd.prog 37 #[.string ⟨key.toArray⟩, .string ⟨label.toArray⟩, .string ⟨context.toArray⟩, .int .i64 (n : Int)] w fun e w' => e = .returned (.tuple #[.string ⟨(expand key (labelInfo label context n) n).toArray⟩, .int .i64 0]) ∧ Below w.heap.size w w' := by
  have hcl : ¬ 9223372036854775807 < 6 + label.length := by omega
  have hcl2 : ¬ 9223372036854775807 < 3 + (6 + label.length) := by omega
  have hcl3 : ¬ 9223372036854775807 < 3 + (6 + label.length) + 1 := by omega
  have hcl4 : ¬ 9223372036854775807 < 3 + (6 + label.length) + 1 + context.length := by omega
  have hd : decide ((n : Int) < 0) = false := by simp
  have hd2 : decide ((8160 : Int) < (n : Int)) = false := by simp; omega
  have hd3 : decide ((255 : Int) < 6 + (label.length : Int)) = false := by simp; omega
  have hd4 : decide ((255 : Int) < (context.length : Int)) = false := by simp; omega
  have hs3 : Src (w.alloc (.cells #[.int .u8 ((n : Int) / 256), .int .u8 ((n : Int) % 256), .int .u8 (6 + (label.length : Int))] 5)) (w.heap.size + 1) (some ⟨w.heap.size, 0, none⟩) [UInt8.ofNat (n / 256), UInt8.ofNat n, UInt8.ofNat (6 + label.length)] := fun _ => ⟨w.heap.size, 0, rfl, by omega, fun j hj => by
    have hj' : j < 3 := hj
    obtain rfl | rfl | rfl : j = 0 ∨ j = 1 ∨ j = 2 := by omega
    · simp; omega
    · simp
    · simp; omega⟩
  have HS3 := Lib.hid hs3
  clear hs3
  have hcx : (context.length : Int) = ((UInt8.ofNat context.length).toNat : Int) := by simp; omega
  have hs1 : ∀ X, Src ((w.alloc X).alloc (.cells #[.int .u8 (context.length : Int)] 5)) (w.heap.size + 2) (some ⟨w.heap.size + 1, 0, none⟩) [UInt8.ofNat context.length] := fun X _ => ⟨w.heap.size + 1, 0, rfl, by omega, fun j hj => by
    obtain rfl : j = 0 := by simpa using hj
    refine (cell2 _ _ _ _).trans ?_
    rw [hcx]
    rfl⟩
  have HS1 := Lib.hid hs1
  clear hs1 hcx
  have hlen : (labelInfo label context n).length < 100000 := by simp [labelInfo, tls13]; omega
  have HX := Lib.hid (fun W => refExpand_any n key (labelInfo label context n) W hk hlen hn)
  obtain ⟨y, hy⟩ : ∃ y, y = expand key (labelInfo label context n) n := ⟨_, rfl⟩
  rw [← hy] at HX
  rw [← hy]
  clear hy hlen
  go_enter Tryd.func37, Tryd.ntmps37
  go_wp2_with (first
    | ((with_reducible refine (?_ : wpList _ _ _ (Oper.mk (some 38) _ _ _ _ _ :: _) _ _)); go_loud (refine wpList_string_of rfl (.tmp 37) rfl [UInt8.ofNat (n / 256), UInt8.ofNat n, UInt8.ofNat (6 + label.length)] (some ⟨w.heap.size, 0, none⟩) 3 (w.heap.size + 1) rfl HS3.out ?_))
    | ((with_reducible refine (?_ : wpList _ _ _ (Oper.mk (some 45) _ _ _ _ _ :: _) _ _)); go_loud (refine wpList_string_of rfl (.tmp 44) rfl [UInt8.ofNat context.length] (some ⟨w.heap.size + 1, 0, none⟩) 1 (w.heap.size + 2) rfl (HS1.out _) ?_)))
  rw [label_str]
  refine (HX.out _).mono ?_
  rintro e w1 ⟨rfl, hb1⟩
  go_wp2
  go_ret2
  exact ⟨rfl, (((Below.refl _ _).alloc (Nat.le_refl _) _).alloc (by simp) _).trans (hb1.mono (by simp; omega))⟩
end Go.Proofs.YtdjhempfpgcigaaDoor
