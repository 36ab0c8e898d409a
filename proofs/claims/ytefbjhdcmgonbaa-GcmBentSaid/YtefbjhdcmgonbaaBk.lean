/-
  The contracts of package block's keys: a key's words.
-/
import Derived.Test.YtefbjhdcmgonbaaBs5
import Derived.Deep.AppendLies
import Derived.Maps.AppendAt
namespace Go.Proofs.Ytefbjhdcmgonbaa
open Go.RowKit

def subw (x : UInt32) : UInt32 := lo32 (sub64 (wide x))
set_option maxRecDepth 100000 in
set_option maxHeartbeats 1000000 in
theorem subw_any (x : UInt32) (w : World) : Calls Try.prog 52 #[.int .u32 (x.toNat : Int)] w fun e w' => e = .returned (.int .u32 ((subw x).toNat : Int)) ∧ Below w.heap.size w w' := by
  have h := fun W => substituted_any (wide x) W
  simp only [wide_nat] at h
  have e0 := wrap64_u32 x
  have e1 := w_lo (sub64 (wide x))
  have HD : Hid (subw x = lo32 (sub64 (wide x))) := Lib.hid rfl
  generalize sub64 (wide x) = v at *
  generalize lo32 v = y at *
  go_enter Try.func52, Try.ntmps52
  go_wp2_with (go_at_call 40; with_reducible refine (h _).mono ?_; rintro e w1 ⟨rfl, kk, hw1⟩; subst hw1)
  go_ret
  exact ⟨by rw [HD.out]; rfl, below_drewN (Below.refl _ _) _⟩
theorem infoW : (Try.prog.info? 71).map (fun i => (i.zero, i.size, i.bytes)) = some (some (.int .u32 0), 1, 4) := by kernel_rfl
theorem madeCells_words (c : Nat) : madeCells #[.int .u32 0] c = ((List.replicate c (0 : UInt32)).map U32).toArray := by
  apply Array.toList_inj.1
  rw [toList_madeCells_one (.int .u32 0) c, List.map_replicate]; rfl
theorem run_make_words (n : Nat) (hn : n ≤ 1000) (w : World) :
    (Instr.makeSlice 66 (.int .i64 (n : Int)) (.int .i64 (n : Int))).run Try.prog w = .ok (.slice (some ⟨w.heap.size, 0, none⟩) n n) (w.alloc (.cells ((List.replicate n (0 : UInt32)).map U32).toArray 71)) := by
  obtain ⟨i, hi, hz, hs, hb⟩ := info_parts infoW
  have h := run_make (P := Try.prog) w 66 71 i (.int .u32 0) Try.underlying66 hi hz .i64 .i64 n n (by omega) (by omega) (by rw [hb]; omega) (by omega)
  rw [h, hs]
  simp only [Int.toNat_natCast, Nat.mul_one]
  rw [show Value.cells (.int .u32 0) = #[.int .u32 0] from rfl, madeCells_words]
/-- Bytes that came in, below block B. -/
def InK (w : World) (B : Nat) (A : Option Addr) (c : Nat) (xs : List UInt8) : Prop := xs.length ≤ c ∧ c ≤ 9223372036854775807 ∧ (0 < xs.length → ∃ gb ob, A = some ⟨gb, ob, none⟩ ∧ gb < B ∧ Bytes w gb ob xs)
theorem InK.below {w w' : World} {B : Nat} {A : Option Addr} {c : Nat} {xs : List UInt8} (h : InK w B A c xs) (hb : Below B w w') : InK w' B A c xs :=
  ⟨h.1, h.2.1, fun h0 => by
    obtain ⟨gb, ob, e, hl, hby⟩ := h.2.2 h0
    exact ⟨gb, ob, e, hl, hby.below hb hl⟩⟩

/-- The words that a key's bytes begin, after k of them. -/
def w1To (n : Nat) (key : List UInt8) : Nat → List UInt32
  | 0 => List.replicate (4 * (n + 7)) 0
  | k + 1 => (w1To n key k).set (k / 4) (((w1To n key k).getD (k / 4) 0 <<< 8) ||| (key.getD k 0).toUInt32)
theorem w1To_length (n : Nat) (key : List UInt8) (k : Nat) : (w1To n key k).length = 4 * (n + 7) := by
  induction k with
  | zero => simp [w1To]
  | succ k ih => rw [w1To, List.length_set, ih]
/-- What a word is put together with. -/
def kNew (n : Nat) (L : List UInt32) (c : BitVec 64) (i : Nat) : UInt32 :=
  if i % n = 0 then subw (rotl (8 * 1) (L.getD (i - 1) 0)) ^^^ (lo32 c <<< 24) else if i % n = 4 then subw (L.getD (i - 1) 0) else L.getD (i - 1) 0
def kTo (n : Nat) (L0 : List UInt32) : Nat → List UInt32 × BitVec 64
  | 0 => (L0, 1#64)
  | j + 1 => let p := kTo n L0 j; (p.1.set (n + j) (p.1.getD j 0 ^^^ kNew n p.1 p.2 (n + j)), if (n + j) % n = 0 then dbl64 p.2 else p.2)
theorem kTo_length (n : Nat) (L0 : List UInt32) (j : Nat) : (kTo n L0 j).1.length = L0.length := by
  induction j with
  | zero => rfl
  | succ j ih => simp only [kTo]; rw [List.length_set, ih]
def kWords (n : Nat) (key : List UInt8) : List UInt32 := (kTo n (w1To n key (4 * n)) (3 * n + 28)).1
theorem kWords_length (n : Nat) (key : List UInt8) : (kWords n key).length = 4 * (n + 7) := by rw [kWords, kTo_length, w1To_length]
theorem w_shl24' (x : UInt32) : IntKind.u32.wrap ((x.toNat : Int) * (16777216 : Int)) = ((x <<< 24).toNat : Int) := by
  rw [IntKind.wrap_u32]; exact w_shl24 x
theorem tdivn (k : Nat) (d : Nat) : (k : Int).tdiv (d : Int) = ((k / d : Nat) : Int) := by rw [Int.tdiv_eq_ediv_of_nonneg (by omega)]; simp
theorem tmodn (k : Nat) (d : Nat) : (k : Int).tmod (d : Int) = ((k % d : Nat) : Int) := by rw [Int.tmod_eq_emod_of_nonneg (by omega)]; simp
set_option maxRecDepth 100000 in
set_option maxHeartbeats 2000000 in
theorem wordsOf_any (A : Option Addr) (c B n : Nat) (key : List UInt8) (w : World) (hB : B ≤ w.heap.size) (ik : InK w B A c key) (hl : key.length = 4 * n) (hn : n = 4 ∨ n = 8) :
    Calls Try.prog 34 #[.slice A key.length c] w fun e w' => e = .returned (.slice (some ⟨w.heap.size, 0, none⟩) (4 * (n + 7)) (4 * (n + 7))) ∧ Blk w' w.heap.size 71 ((kWords n key).map U32) ∧ Below w.heap.size w w' := by
  obtain ⟨T, hT⟩ : ∃ T, T = 4 * (n + 7) := ⟨_, rfl⟩
  have hT0 : T ≤ 60 := by omega
  have hmk := run_make_words T (by omega) w
  have d1 : (key.length : Int) / 4 = (n : Int) := by omega
  have d1' : (key.length : Int).tdiv 4 = (n : Int) := by rw [Int.tdiv_eq_ediv_of_nonneg (by omega)]; omega
  have d2 : (4 : Int) * ((n : Int) + 7) = (T : Int) := by omega
  have hn8 : n ≤ 8 := by omega
  have hkl : key.length ≤ 32 := by omega
  have hw0 : List.replicate T (0 : UInt32) = w1To n key 0 := by rw [hT]; rfl
  rw [hw0] at hmk
  have HT := Lib.hid (show T = 4 * (n + 7) ∧ key.length = 4 * n ∧ (n = 4 ∨ n = 8) from ⟨hT, hl, hn⟩)
  have HW : Hid (kWords n key = (kTo n (w1To n key (4 * n)) (3 * n + 28)).1) := Lib.hid rfl
  have HWL := Lib.hid (w1To_length n key)
  rw [← hT]
  obtain ⟨hkc, hkm, hke⟩ := id ik
  obtain ⟨gb, ob, rfl, hgb, hby⟩ := hke (by omega)
  clear hT hl hn hw0 hke ik
  go_enter Try.func34, Try.ntmps34
  go_wp2
  clear d1 d1' d2 hmk
  go_loopw [19] (fun i wr => ∃ k : Nat, k ≤ key.length ∧ i = .int .i64 (k : Int) ∧ Blk wr w.heap.size 71 ((w1To n key k).map U32) ∧ Below w.heap.size w wr) (fun i _ => key.length - (intOf i).toNat)
  case atStart => exact ⟨0, Nat.zero_le _, rfl, Blk.new_of w _ _ _ (by rfl), (Below.refl _ _).alloc (Nat.le_refl _) _⟩
  case round =>
    obtain ⟨k, hk, rfl, hW, hb⟩ := hrel
    by_cases hlt : k < key.length
    · have hd : decide ((k : Int) < (key.length : Int)) = true := by simp; omega
      have hcb := (hb.cell (p := ⟨gb, ob + k, none⟩) (by show gb < _; omega)).trans (hby k hlt)
      have e : w1To n key (k + 1) = (w1To n key k).set (k / 4) (((w1To n key k).getD (k / 4) 0 <<< 8) ||| (key.getD k 0).toUInt32) := rfl
      have hq := tdiv4 k
      have hq' := tdiv4' k
      have hwl := HWL.out k
      have hq4 : k / 4 < T := by have := HT.out; omega
      obtain ⟨q, hqq⟩ : ∃ q, q = k / 4 := ⟨_, rfl⟩
      rw [← hqq] at e hq hq' hq4
      have hc := hW.at32 q (by have := HT.out; omega)
      have hf := hW.frozen q
      generalize key.getD k 0 = x1 at *
      generalize (w1To n key k).getD q 0 = x2 at *
      have HE := Lib.hid e
      have h1 := w_shl8 x2
      have h1' := w_shl8' x2
      have h2 := u8_mod x1
      have h2' := w_u8 x1
      have h3 := w_or (x2 <<< 8) x1.toUInt32
      have hk0 : (0 : Int) ≤ (k : Int) := by omega
      have hk1 : (k : Int) < (key.length : Int) := by omega
      have hq0 : (0 : Int) ≤ (q : Int) := by omega
      have hq1 : (q : Int) < (T : Int) := by omega
      generalize w1To n key k = L at *
      generalize x2 <<< 8 = x3 at *
      generalize x1.toUInt32 = x4 at *
      clear e hwl hqq
      go_wp2
      go_roundw
      case rel =>
        refine ⟨k + 1, by omega, by go_num, ?_, hb.setCell (Nat.le_refl _) _⟩
        rw [HE.out, ← map_set32]
        exact hW.set_ q _
      case measure => simp [intOf]; omega
    · have hd : decide ((k : Int) < (key.length : Int)) = false := by simp; omega
      have hke : k = 4 * n := by have := HT.out; omega
      rw [hke] at hW
      have hL0 := HWL.out (4 * n)
      generalize w1To n key (4 * n) = L0 at *
      have HL0 := Lib.hid hL0
      clear hby hL0 hke
      go_wp2
      clear hd hlt hk
      go_loopw [7, 8] (fun cv i wr => ∃ (j m : Nat), j ≤ 3 * n + 28 ∧ Hid (m = n + j) ∧ i = .int .i64 (m : Int) ∧ cv = .int .u64 ((kTo n L0 j).2.toNat : Int) ∧ Blk wr w.heap.size 71 ((kTo n L0 j).1.map U32) ∧ Below w.heap.size w wr) (fun _ i _ => T - (intOf i).toNat)
      case atStart => exact ⟨0, n, Nat.zero_le _, (show _ = _ from rfl), rfl, rfl, hW, hb⟩
      case round =>
        clear hW hb
        obtain ⟨j, m, hj, HM, rfl, rfl, hW, hb⟩ := hrel
        have hmj : m = n + j := HM.out
        have htt := HT.out
        by_cases hlt : m < T
        · have hd : decide ((m : Int) < (T : Int)) = true := by simp; omega
          have e1 : (kTo n L0 (j + 1)).1 = (kTo n L0 j).1.set (n + j) ((kTo n L0 j).1.getD j 0 ^^^ kNew n (kTo n L0 j).1 (kTo n L0 j).2 (n + j)) := rfl
          have e2 : (kTo n L0 (j + 1)).2 = if (n + j) % n = 0 then dbl64 (kTo n L0 j).2 else (kTo n L0 j).2 := rfl
          have hkl' := kTo_length n L0 j
          rw [HL0.out, ← htt.1] at hkl'
          rw [← hmj] at e1 e2
          generalize (kTo n L0 j).1 = L at *
          generalize (kTo n L0 j).2 = cc at *
          have hca := hW.at32 (m - 1) (by omega)
          have hco := hW.at32 j (by omega)
          have hcn := hW.at32 m (by omega)
          have hfn := hW.frozen m
          have hm1 : (m : Int) - 1 = ((m - 1 : Nat) : Int) := by omega
          have hmn : (m : Int) - (n : Int) = (j : Int) := by omega
          have hN : kNew n L cc m = if m % n = 0 then subw (rotl (8 * 1) (L.getD (m - 1) 0)) ^^^ (lo32 cc <<< 24) else if m % n = 4 then subw (L.getD (m - 1) 0) else L.getD (m - 1) 0 := rfl
          have hr := tmodn m n
          have hn0 : ¬ (n : Int) = 0 := by omega
          obtain ⟨r, hrr⟩ : ∃ r, r = m % n := ⟨_, rfl⟩
          rw [← hrr] at hr e2 hN
          generalize hYY : kNew n L cc m = Y at *
          generalize L.getD (m - 1) 0 = a at *
          generalize L.getD j 0 = ow at *
          generalize L.getD m 0 = mw at *
          obtain ⟨m', hm'⟩ : ∃ m', m' = m - 1 := ⟨_, rfl⟩
          rw [← hm'] at hca hm1
          have hb1 : (m' : Int) < (T : Int) := by omega
          have hb2 : (0 : Int) ≤ (m' : Int) := by omega
          have hb3 : (j : Int) < (T : Int) := by omega
          have hb4 : (0 : Int) ≤ (j : Int) := by omega
          have hb5 : (m : Int) < (T : Int) := by omega
          have hb6 : (0 : Int) ≤ (m : Int) := by omega
          have hx := w_xor ow Y
          have HE1 := Lib.hid e1
          have HE2 := Lib.hid e2
          have hgl := hW.lt
          have HJ := Lib.hid (show j + 1 ≤ 3 * n + 28 ∧ m + 1 = n + (j + 1) from ⟨by omega, by omega⟩)
          clear hm' hrr e1 e2 hmj htt hkl' hYY
          by_cases hr0 : r = 0
          · subst hr0
            have hN' : Y = subw (rotl (8 * 1) a) ^^^ (lo32 cc <<< 24) := by rw [hN]; rfl
            have hs1 := w_lo cc
            have hs2 := w_shl24 (lo32 cc)
            have hs3 := w_shl24' (lo32 cc)
            have hs4 := w_xor (subw (rotl (8 * 1) a)) (lo32 cc <<< 24)
            rw [← hN'] at hs4
            have c1 := fun W => rot_1 a W
            have c2 := fun W => subw_any (rotl (8 * 1) a) W
            have c3 := fun W => doubled_any cc W
            generalize lo32 cc <<< 24 = z1 at *
            generalize lo32 cc = z2 at *
            generalize subw (rotl (8 * 1) a) = z3 at *
            generalize rotl (8 * 1) a = z4 at *
            clear hN hN'
            go_wp2_with (first
              | (go_at_call 53; with_reducible refine (c1 _).mono ?_; rintro e w1 ⟨rfl, hx1⟩; replace hco := (hx1.cell (p := ⟨w.heap.size, j, none⟩) hgl).trans hco; replace hcn := (hx1.cell (p := ⟨w.heap.size, m, none⟩) hgl).trans hcn; replace hfn := (hx1.frozen (p := ⟨w.heap.size, m, none⟩) hgl).trans hfn; replace hW := hW.below hx1 hgl; replace hb := hb.trans (hx1.mono hb.size); replace hgl := hW.lt; clear hx1)
              | (go_at_call 52; with_reducible refine (c2 _).mono ?_; rintro e w2 ⟨rfl, hx1⟩; replace hco := (hx1.cell (p := ⟨w.heap.size, j, none⟩) hgl).trans hco; replace hcn := (hx1.cell (p := ⟨w.heap.size, m, none⟩) hgl).trans hcn; replace hfn := (hx1.frozen (p := ⟨w.heap.size, m, none⟩) hgl).trans hfn; replace hW := hW.below hx1 hgl; replace hb := hb.trans (hx1.mono hb.size); replace hgl := hW.lt; clear hx1)
              | (go_at_call 54; with_reducible refine (c3 _).mono ?_; rintro e w3 ⟨rfl, hw3⟩; subst hw3))
            go_roundw
            case rel =>
              refine ⟨j + 1, m + 1, HJ.out.1, HJ.out.2, by go_num, by rw [HE2.out]; simp only [if_true], ?_, hb.setCell (Nat.le_refl _) _⟩
              rw [HE1.out, ← map_set32]
              exact hW.set_ m _
            case measure => simp [intOf]; omega
          · have hri : ((r : Int) == 0) = false := by simp; omega
            rw [if_neg hr0] at hN
            by_cases hr4 : r = 4
            · subst hr4
              have hN' : Y = subw a := by rw [hN, if_pos rfl]
              have c2 := fun W => subw_any a W
              rw [← hN'] at c2
              clear hN hN'
              go_wp2_with (go_at_call 52; with_reducible refine (c2 _).mono ?_; rintro e w2 ⟨rfl, hx1⟩; replace hco := (hx1.cell (p := ⟨w.heap.size, j, none⟩) hgl).trans hco; replace hcn := (hx1.cell (p := ⟨w.heap.size, m, none⟩) hgl).trans hcn; replace hfn := (hx1.frozen (p := ⟨w.heap.size, m, none⟩) hgl).trans hfn; replace hW := hW.below hx1 hgl; replace hb := hb.trans (hx1.mono hb.size); replace hgl := hW.lt; clear hx1)
              go_roundw
              case rel =>
                refine ⟨j + 1, m + 1, HJ.out.1, HJ.out.2, by go_num, by rw [HE2.out]; simp only [if_neg (show ¬ (4 = 0) by decide)], ?_, hb.setCell (Nat.le_refl _) _⟩
                rw [HE1.out, ← map_set32]
                exact hW.set_ m _
              case measure => simp [intOf]; omega
            · have hri4 : ((r : Int) == 4) = false := by simp; omega
              have hN' : Y = a := by rw [hN, if_neg hr4]
              clear hN
              subst hN'
              go_wp2
              go_roundw
              case rel =>
                refine ⟨j + 1, m + 1, HJ.out.1, HJ.out.2, by go_num, by rw [HE2.out]; simp only [if_neg hr0], ?_, hb.setCell (Nat.le_refl _) _⟩
                rw [HE1.out, ← map_set32]
                exact hW.set_ m _
              case measure => simp [intOf]; omega
        · have hd : decide ((m : Int) < (T : Int)) = false := by simp; omega
          have hje : j = 3 * n + 28 := by omega
          subst hje
          rw [← HW.out] at hW
          clear hmj htt
          go_wp2
          go_ret
          exact ⟨rfl, hW, hb⟩
end Go.Proofs.Ytefbjhdcmgonbaa
