/-
  The contract of package piece's Split.
-/
import Derived.Test.YtjachohgffnbiaaPd
namespace Go.Proofs.Ytjachohgffnbiaa
open Go.RowKit

def sLen : Value → Nat
  | .slice _ n _ => n
  | _ => 0
/-- What is left of a flight, in pieces of so many bytes at most. -/
def restE (room : Nat) (r : List UInt8) : List (List UInt8) :=
  if _h : 0 < room ∧ room < r.length then (64 :: r.take room) :: restE room (r.drop room) else [0 :: r]
termination_by r.length
decreasing_by simp; omega
theorem restE_more {room : Nat} {r : List UInt8} (h0 : 0 < room) (h : room < r.length) : restE room r = (64 :: r.take room) :: restE room (r.drop room) := by
  rw [restE, dif_pos ⟨h0, h⟩]
theorem restE_last {room : Nat} {r : List UInt8} (h : ¬ room < r.length) : restE room r = [0 :: r] := by
  rw [restE, dif_neg (fun h2 => h h2.2)]
/-- A flight in pieces. -/
def splitE (b : List UInt8) (size : Int) : List (List UInt8) × Nat :=
  if size < 16 ∨ 4000 < size then ([], 1) else if 32768 < b.length then ([], 4)
  else if b.length ≤ size.toNat - 1 then ([0 :: b], 0)
  else ((192 :: (be4 b.length ++ b.take (size.toNat - 5))) :: restE (size.toNat - 1) (b.drop (size.toNat - 5)), 0)
theorem rws_one {w : World} {base n c : Nat} {A : Option Addr} {y : List UInt8} (hy : Buf w base A n c y) (hb : base ≤ w.heap.size) : Rws (w.alloc (.cells #[.slice A n c] 23)) base (.slice (some ⟨w.heap.size, 0, none⟩) 1 1) [y] := by
  have hl := hy.1
  refine ⟨[.slice A n c], ⟨rfl, .inr ⟨w.heap.size, 1, #[.slice A n c], rfl, hb, heap_alloc_new w _, Nat.le_refl _, by decide, rfl, rfl⟩⟩, fun j hj => ?_, fun i j hij hj => by simp at hj; omega⟩
  obtain rfl : j = 0 := by simpa using hj
  refine ⟨A, c, by show some (Value.slice A n c) = some (Value.slice A y.length c); rw [hl], by show Buf _ base A y.length c y; rw [hl]; exact hy.alloc _, fun k hk a ha => ?_⟩
  simp only [Value.ownBlock, Option.some.injEq] at hk
  subst hk
  rcases hy.2 with ⟨h, _⟩ | ⟨g, h, _, h2, _⟩
  · rw [h] at ha; cases ha
  · rw [h] at ha; cases ha; show g ≠ w.heap.size; omega
/-- A row more behind rows of the call's own, in a plain region. -/
theorem wpList_append_rws {ops : Array Oper} {rest : List Oper} {o : Oper} {a : Act} {w0 w : World} {Q : Exit → Act → World → Prop} (hgd : o.guard = none) (s x : Operand)
    (ho : o.op = .call { callee := .builtin .append, args := #[s, x], argTypes := #[25, 25] })
    (base : Nat) (v : Value) (ps : List (List UInt8)) (hs : a.eval s = v) (hv : Rws w0 base v ps) (hbl : Below w0.heap.size w0 w) (hbase : base ≤ w0.heap.size)
    (gx : Nat) (hx : a.eval x = .slice (some ⟨gx, 0, none⟩) 1 1) (y : List UInt8) (Ay : Option Addr) (cy n : Nat) (hc : w.cell? ⟨gx, 0, none⟩ = some (.slice Ay n cy)) (hy : Buf w w0.heap.size Ay n cy y)
    (hn : ps.length ≤ 1000000)
    (h : ∀ v' w', Rws w' base v' (ps ++ [y]) → Below base w w' → w.grownBy w' v.ownBlock → wpList Try.prog ops Q rest (a.put o.dst v') w') : wpList Try.prog ops Q (o :: rest) a w := by
  obtain rfl := hy.1
  exact wpList_plain hgd fun K hK' => wp_append_rws s x ho base v ps hs hv hbl hbase gx hx y Ay cy hc hy hn (fun v' w' h1 h2 h3 => hK' _ _ (h v' w' h1 h2 h3))
theorem rws_slice {w : World} {base : Nat} {v : Value} {ps : List (List UInt8)} (h : Rws w base v ps) : ∃ A c, v = .slice A ps.length c := by
  obtain ⟨A, c, e, _⟩ := h.slice; exact ⟨A, c, e⟩
set_option maxRecDepth 100000 in
set_option maxHeartbeats 1000000 in
theorem split_e (A : Option Addr) (c n : Nat) (b : List UInt8) (size : Int) (w : World) (hn : b.length = n) (iB : In w w.heap.size A c b) (hm : n < 900000) :
    Calls Try.prog 10 #[.slice A n c, .int .i64 size] w fun e w' => ∃ v, e = .returned (.tuple #[v, .int .i64 ((splitE b size).2 : Int)]) ∧ Rws w' w.heap.size v (splitE b size).1 ∧ Below w.heap.size w w' := by
  by_cases h1 : size < 16
  · have HZ := Lib.hid (show splitE b size = ([], 1) by unfold splitE; rw [if_pos (.inl h1)])
    go_enter Try.func10, Try.ntmps10
    go_wp2
    go_ret2
    exact ⟨_, by rw [HZ.out] <;> rfl, by rw [HZ.out]; exact Rws.nil _ _, Below.refl _ _⟩
  by_cases h2 : 4000 < size
  · have HZ := Lib.hid (show splitE b size = ([], 1) by unfold splitE; rw [if_pos (.inr h2)])
    go_enter Try.func10, Try.ntmps10
    go_wp2
    go_ret2
    exact ⟨_, by rw [HZ.out] <;> rfl, by rw [HZ.out]; exact Rws.nil _ _, Below.refl _ _⟩
  by_cases h3 : 32768 < n
  · have HZ := Lib.hid (show splitE b size = ([], 4) by unfold splitE; rw [if_neg (by omega), if_pos (by omega)])
    have hd : (32768 : Int) < (n : Int) := by omega
    clear h3
    go_enter Try.func10, Try.ntmps10
    go_wp2
    go_ret2
    exact ⟨_, by rw [HZ.out] <;> rfl, by rw [HZ.out]; exact Rws.nil _ _, Below.refl _ _⟩
  obtain ⟨z, rfl⟩ : ∃ z : Nat, size = (z : Int) := ⟨size.toNat, by omega⟩
  obtain ⟨room, hroom⟩ : ∃ room, room = z - 1 := ⟨_, rfl⟩
  have e1 : (z : Int) - 1 = (room : Int) := by omega
  have hd3 : ¬ (32768 : Int) < (n : Int) := by omega
  have HZ0 := Lib.hid (show splitE b (z : Int) = if b.length ≤ z - 1 then ([0 :: b], 0) else ((192 :: (be4 b.length ++ b.take (z - 5))) :: restE (z - 1) (b.drop (z - 5)), 0) by unfold splitE; rw [if_neg (by omega), if_neg (by omega), Int.toNat_natCast])
  rw [hn, ← hroom] at HZ0
  by_cases h4 : n ≤ room
  · have HZ := Lib.hid (HZ0.out.trans (if_pos h4))
    have HL := Lib.hid (later_e 0 A c n b w hn iB (by omega))
    have hd4 : decide (n ≤ room) = true := by simpa using h4
    clear hn iB h3 hroom h4
    go_enter Try.func10, Try.ntmps10
    go_wp2_with (go_at_call 18; refine HL.out.mono ?_; rintro e w2 ⟨A2, c2, rfl, hB2, hb2⟩)
    go_ret2
    exact ⟨_, by rw [HZ.out] <;> rfl, by rw [HZ.out]; exact rws_one hB2 hb2.size, hb2.alloc hb2.size _⟩
  · have HZ := Lib.hid (HZ0.out.trans (if_neg h4))
    obtain ⟨held, hheld⟩ : ∃ held, held = z - 5 := ⟨_, rfl⟩
    have e2 : (room : Int) - 4 = (held : Int) := by omega
    rw [← hheld] at HZ
    obtain ⟨gb, ob, rfl, hgb, hby⟩ := iB.2.2 (by omega)
    have hcn := iB.1
    have hd4 : decide (n ≤ room) = false := by simpa using h4
    have hhn : (held : Int) ≤ (n : Int) := by omega
    have hhc : (held : Int) ≤ (c : Int) := by omega
    have hnc : (n : Int) ≤ (c : Int) := by omega
    have hh0 : (0 : Int) ≤ (held : Int) := by omega
    have hch : ¬ c = held := by omega
    have HFI := Lib.hid (first_e n (some ⟨gb, ob, none⟩) c held (b.take held) w (by rw [List.length_take]; omega) (iB.take held) (by omega))
    have HRE := Lib.hid (in_drop iB held (by omega))
    have HRL := Lib.hid (show (b.drop held).length = n - held by rw [List.length_drop, hn])
    have HRM := Lib.hid (show 1 ≤ room ∧ room < 4000 ∧ n ≤ 32768 from ⟨by omega, by omega, by omega⟩)
    clear hn iB h3 hroom h4 hheld hby hcn
    go_enter Try.func10, Try.ntmps10
    go_upto_region 10 with (go_at_call 19; refine HFI.out.mono ?_; rintro e w2 ⟨A2, c2, rfl, hB2, hb2⟩)
    have hR := rws_one hB2 hb2.size
    have hb3 := hb2.alloc hb2.size (.cells #[.slice A2 (5 + held) c2] 23)
    clear hB2 hb2
    generalize w2.alloc (.cells #[.slice A2 (5 + held) c2] 23) = w3 at *
    have hre := HRE.out
    rw [if_neg hch] at hre
    have HRE2 := Lib.hid (hre.below hb3)
    have HR := Lib.hid hR
    have HB3 := Lib.hid hb3
    clear hR hb3 hre
    go_wp2
    obtain ⟨n9, hn9⟩ : ∃ n9, n9 = n - held := ⟨_, rfl⟩
    obtain ⟨c9, hc9⟩ : ∃ c9, c9 = c - held := ⟨_, rfl⟩
    rw [← hn9, ← hc9]
    rw [← hc9] at HRE2
    rw [← hn9] at HRL
    have HP9 := Lib.hid (show n9 ≤ 32768 by have := HRM.out; omega)
    clear hhn hhc hnc hh0 hch e2 hd4 hn9 hc9 e1 hd3
    go_loopw [8, 9] (fun v r wr => ∃ (P : List (List UInt8)) (A' : Option Addr) (n' c' : Nat) (R : List UInt8), r = .slice A' n' c' ∧ Hid (R.length = n') ∧ Rws wr w.heap.size v P ∧ In wr w.heap.size A' c' R ∧ Hid (P ++ restE room R = (192 :: (be4 n ++ b.take held)) :: restE room (b.drop held)) ∧ Below w.heap.size w wr ∧ P.length + n' ≤ 40000) (fun _ r _ => lenOf r)
    case atStart => exact ⟨[192 :: (be4 n ++ b.take held)], _, n9, c9, b.drop held, rfl, HRL, HR.out, HRE2.out, Lib.hid rfl, HB3.out, by have := HP9.out; simp; omega⟩
    case round =>
      obtain ⟨P, A', n', c', R, rfl, HRN, hP, hI, HPR, hbw, hpn⟩ := hrel
      by_cases hlt : room < n'
      · have hd : decide (room < n') = true := by simpa using hlt
        obtain ⟨g9, o9, rfl, hg9, _⟩ := hI.2.2 (by have := HRN.out; omega)
        have hcr : ¬ c' = room := by have := hI.1; have := HRN.out; omega
        have hrn : (room : Int) ≤ (n' : Int) := by omega
        have hrc : (room : Int) ≤ (c' : Int) := by have := hI.1; have := HRN.out; omega
        have hnc : (n' : Int) ≤ (c' : Int) := by have := hI.1; have := HRN.out; omega
        have hr0 : (0 : Int) ≤ (room : Int) := by omega
        have HLT := Lib.hid (later_e 64 (some ⟨g9, o9, none⟩) c' room (R.take room) wr (by rw [List.length_take, HRN.out]; omega) (in_weak (hI.take room) hbw.size) (by have := HRM.out; omega))
        have hid := in_drop hI room (by rw [HRN.out]; omega)
        rw [if_neg hcr] at hid
        have HID := Lib.hid hid
        have HPP := Lib.hid hP
        have HPL := Lib.hid (show P.length ≤ 1000000 by omega)
        have HNX := Lib.hid (show restE room R = (64 :: R.take room) :: restE room (R.drop room) from restE_more (by have := HRM.out; omega) (by rw [HRN.out]; exact hlt))
        have HXX := Lib.hid (And.intro hpn (And.intro hlt hbw))
        clear hid hI hP hlt hpn hbw
        go_wp2_with (first
          | (go_at_call 18; refine HLT.out.mono ?_; rintro e w5 ⟨A5, c5, rfl, hB5, hb5⟩)
          | ((with_reducible refine (?_ : wpList _ _ _ (Oper.mk (some 50) _ _ _ _ _ :: _) _ _)); go_loud (refine wpList_append_rws rfl (.tmp 44) (.tmp 49) rfl w.heap.size _ P rfl HPP.out (hb5.alloc hb5.size (.cells #[.slice A5 (1 + room) c5] 23)) (HXX.out.2.2).size w5.heap.size rfl (64 :: R.take room) A5 c5 (1 + room) ((Blk.new_of w5 23 #[.slice A5 (1 + room) c5] _ rfl).cell 0) (hB5.alloc _) HPL.out ?_); intro v6 w6 hR6 hb6 hg6))
        have hbz : Below w.heap.size wr w6 := (((hb5.alloc hb5.size (.cells #[.slice A5 (1 + room) c5] 23))).mono HXX.out.2.2.size).trans hb6
        have hIz := HID.out.below hbz
        have hbwz := HXX.out.2.2.trans hbz
        have hrn : (room : Int) ≤ (n' : Int) := by have := HXX.out.2.1; omega
        have HLR := Lib.hid (show (R.drop room).length = n' - room by rw [List.length_drop, HRN.out])
        have HPZ := Lib.hid (show (P ++ [64 :: R.take room]) ++ restE room (R.drop room) = (192 :: (be4 n ++ b.take held)) :: restE room (b.drop held) by rw [List.append_assoc]; show P ++ ((64 :: R.take room) :: restE room (R.drop room)) = _; rw [← HNX.out]; exact HPR.out)
        have HPN := Lib.hid (show (P ++ [64 :: R.take room]).length + (n' - room) ≤ 40000 by have := HXX.out; have := HRM.out; rw [List.length_append, List.length_singleton]; omega)
        have HMS := Lib.hid (show n' - room < n' by have := HXX.out; have := HRM.out; omega)
        clear hg6 hb6 hbz hB5 hb5
        go_roundw
        case rel => exact ⟨P ++ [64 :: R.take room], _, _, _, R.drop room, rfl, HLR, hR6, hIz, HPZ, hbwz, HPN.out⟩
        case measure => exact HMS.out
      · have hd : decide (room < n') = false := by simpa using hlt
        have HLT := Lib.hid (later_e 0 A' c' n' R wr HRN.out (in_weak hI hbw.size) (by omega))
        have HPP := Lib.hid hP
        have HPL := Lib.hid (show P.length ≤ 1000000 by omega)
        have HNX := Lib.hid (show restE room R = [0 :: R] from restE_last (by rw [HRN.out]; exact hlt))
        have HBW := Lib.hid hbw
        clear hI hP hlt hpn hbw
        go_wp2_with (first
          | (go_at_call 18; refine HLT.out.mono ?_; rintro e w5 ⟨A5, c5, rfl, hB5, hb5⟩)
          | ((with_reducible refine (?_ : wpList _ _ _ (Oper.mk (some 58) _ _ _ _ _ :: _) _ _)); go_loud (refine wpList_append_rws rfl (.tmp 54) (.tmp 57) rfl w.heap.size _ P rfl HPP.out (hb5.alloc hb5.size (.cells #[.slice A5 (1 + n') c5] 23)) HBW.out.size w5.heap.size rfl (0 :: R) A5 c5 (1 + n') ((Blk.new_of w5 23 #[.slice A5 (1 + n') c5] _ rfl).cell 0) (hB5.alloc _) HPL.out ?_); intro v6 w6 hR6 hb6 hg6))
        go_ret2
        have hbz : Below w.heap.size wr w6 := (((hb5.alloc hb5.size (.cells #[.slice A5 (1 + n') c5] 23))).mono HBW.out.size).trans hb6
        refine ⟨_, by rw [HZ.out] <;> rfl, ?_, HBW.out.trans hbz⟩
        rw [HZ.out]
        have := HPR.out
        rw [HNX.out] at this
        show Rws w6 w.heap.size v6 ((192 :: (be4 n ++ b.take held)) :: restE room (b.drop held))
        rw [← this]
        exact hR6
end Go.Proofs.Ytjachohgffnbiaa
