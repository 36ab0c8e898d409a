/-
  The messages of a handshake as rows of bytes: what is written, what is read of it, and that both ways of reading find what was written.
-/
import Derived.Test.YtagblbfbjemfhaaDoorRows
namespace HelloMath

abbrev L := List UInt8
/-- a number in so many bytes, the highest first -/
def numB : Nat → Nat → L
  | 0, _ => []
  | k + 1, n => numB k (n / 256) ++ [UInt8.ofNat n]
theorem numB_length : ∀ k n, (numB k n).length = k
  | 0, _ => rfl
  | k + 1, n => by rw [numB, List.length_append, numB_length k]; rfl
/-- a row with its count ahead -/
def vecB (k : Nat) (x : L) : L := numB k x.length ++ x
theorem vecB_length (k : Nat) (x : L) : (vecB k x).length = k + x.length := by rw [vecB, List.length_append, numB_length]
/-- the number that bytes say -/
def getN (x : L) : Nat := x.foldl (fun a b => a * 256 + b.toNat) 0
theorem getN_snoc (x : L) (b : UInt8) : getN (x ++ [b]) = getN x * 256 + b.toNat := by unfold getN; rw [List.foldl_append]; rfl
theorem getN_numB : ∀ k n, n < 256 ^ k → getN (numB k n) = n
  | 0, n, h => by
    have : n = 0 := by simpa using h
    subst this; rfl
  | k + 1, n, h => by
    rw [numB, getN_snoc, getN_numB k (n / 256) (by rw [Nat.pow_succ] at h; omega), UInt8.toNat_ofNat']
    omega

structure Msg where
  kind : Int
  rnd : L
  mark : L
  ses : L
  sha : L
  tic : L
  non : L
  sig : L
  certs : List L
  life : Int
  age : Int
  psk : Bool
  retry : Bool
deriving DecidableEq

def zero32 : L := List.replicate 32 0
def special : L := [0xCF, 0x21, 0xAD, 0x74, 0xE5, 0x9A, 0x61, 0x11, 0xBE, 0x1D, 0x8C, 0x02, 0x1E, 0x65, 0xB8, 0x91, 0xC2, 0xA2, 0x11, 0x16, 0x7A, 0xBB, 0x8C, 0x5E, 0x07, 0x9E, 0x09, 0xE2, 0xC8, 0xA8, 0x33, 0x9C]
def zeroM (k : Int) : Msg := ⟨k, zero32, zero32, [], [], [], [], [], [], 0, 0, false, false⟩

/-- may the parts that are there be there? -/
def okF (k : Int) (f1 f2 f3 f4 f5 f6 f7 f8 f9 f10 f11 f12 : Bool) : Bool :=
  if k = 1 then !f6 && !f7 && !f8 && !f9 && !f12 && (f11 || (!f2 && !f5 && !f10))
  else if k = 2 then !f2 && !f5 && !f6 && !f7 && !f8 && !f9 && !f10 && (!f12 || (!f1 && !f4 && !f11))
  else if k = 4 then !f1 && !f2 && !f3 && !f4 && !f7 && !f8 && !f11 && !f12
  else if k = 8 then !f1 && !f2 && !f3 && !f4 && !f5 && !f6 && !f7 && !f8 && !f9 && !f10 && !f11 && !f12
  else if k = 11 then !f1 && !f2 && !f3 && !f4 && !f5 && !f6 && !f7 && !f9 && !f10 && !f11 && !f12
  else if k = 13 then !f1 && !f2 && !f3 && !f4 && !f5 && !f6 && !f7 && !f8 && !f9 && !f10 && !f11 && !f12
  else if k = 15 then !f1 && !f2 && !f3 && !f4 && !f5 && !f6 && !f8 && !f9 && !f10 && !f11 && !f12
  else if k = 20 then !f1 && !f3 && !f4 && !f5 && !f6 && !f7 && !f8 && !f9 && !f10 && !f11 && !f12
  else false
def some8 (x : L) : Bool := decide (0 < x.length)
def okM (m : Msg) : Bool := okF m.kind (m.rnd != zero32) (m.mark != zero32) (some8 m.ses) (some8 m.sha) (some8 m.tic) (some8 m.non) (some8 m.sig) (decide (0 < m.certs.length)) (m.life != 0) (m.age != 0) m.psk m.retry
def wide (n : Int) : Bool := decide (0 ≤ n) && decide (n ≤ 4294967295)
def sized (x : L) (a b : Nat) : Bool := decide (a ≤ x.length) && decide (x.length ≤ b)
def fitM (m : Msg) : Bool :=
  if m.kind = 1 then sized m.ses 0 32 && (decide (m.sha.length = 0) || decide (m.sha.length = 65)) && (!m.psk || (sized m.tic 1 1000 && wide m.age))
  else if m.kind = 2 then sized m.ses 0 32 && (m.retry || (decide (m.sha.length = 65) && m.rnd != special))
  else if m.kind = 4 then wide m.life && wide m.age && sized m.non 1 8 && sized m.tic 1 1000
  else if m.kind = 11 then decide (m.certs.length ≤ 5) && m.certs.all (fun c => sized c 1 2048)
  else if m.kind = 15 then sized m.sig 1 100
  else true
def formM (m : Msg) : Bool := okM m && fitM m

def abil : L := [0, 0x2B, 0, 3, 2, 3, 4, 0, 0x0A, 0, 4, 0, 2, 0, 0x17, 0, 0x0D, 0, 4, 0, 2, 4, 3, 0, 0x33]
def sharesB (m : Msg) : L := if m.sha = [] then [] else [0, 0x17] ++ vecB 2 m.sha
def offeredB (m : Msg) : L := if m.psk then [0, 0x2D, 0, 2, 1, 1, 0, 0x29] ++ vecB 2 (vecB 2 (vecB 2 m.tic ++ numB 4 m.age.toNat) ++ ([0, 0x21, 0x20] ++ m.mark)) else []
def clientB (m : Msg) : L := [3, 3] ++ (m.rnd ++ (vecB 1 m.ses ++ ([0, 2, 0x13, 1, 1, 0] ++ vecB 2 (abil ++ (vecB 2 (vecB 2 (sharesB m)) ++ offeredB m)))))
def serverB (m : Msg) : L := [3, 3] ++ ((if m.retry then special else m.rnd) ++ (vecB 1 m.ses ++ ([0x13, 1, 0] ++ vecB 2 ([0, 0x2B, 0, 2, 3, 4, 0, 0x33] ++ (vecB 2 ([0, 0x17] ++ (if m.retry then [] else vecB 2 m.sha)) ++ (if m.psk then [0, 0x29, 0, 2, 0, 0] else []))))))
def ticketB (m : Msg) : L := numB 4 m.life.toNat ++ (numB 4 m.age.toNat ++ (vecB 1 m.non ++ (vecB 2 m.tic ++ [0, 0])))
def chainB : List L → L
  | [] => []
  | c :: l => vecB 3 c ++ ([0, 0] ++ chainB l)
def bodyM (m : Msg) : L :=
  if m.kind = 1 then clientB m else if m.kind = 2 then serverB m else if m.kind = 4 then ticketB m
  else if m.kind = 8 then [0, 0]
  else if m.kind = 11 then [0] ++ vecB 3 (chainB m.certs)
  else if m.kind = 13 then [0, 0, 8, 0, 0x0D, 0, 4, 0, 2, 4, 3]
  else if m.kind = 15 then [4, 3] ++ vecB 2 m.sig
  else if m.kind = 20 then m.mark
  else []
def wholeM (m : Msg) : L := [UInt8.ofNat m.kind.toNat] ++ vecB 3 (bodyM m)
def isKind (k : Int) : Bool := k == 1 || k == 2 || k == 4 || k == 8 || k == 11 || k == 13 || k == 15 || k == 20

theorem drop_app {a b : L} {n : Nat} (h : a.length = n) : (a ++ b).drop n = b := by subst h; exact List.drop_left
theorem take_app {a b : L} {n : Nat} (h : a.length = n) : (a ++ b).take n = a := by subst h; exact List.take_left
/-- a row behind its count, and what is behind it -/
def cnt (k : Nat) (r : L) : L × L := ((r.drop k).take (getN (r.take k)), (r.drop k).drop (getN (r.take k)))
theorem cnt_vec {k : Nat} {x y : L} (h : x.length < 256 ^ k) : cnt k (vecB k x ++ y) = (x, y) := by
  unfold cnt vecB
  rw [List.append_assoc, drop_app (numB_length _ _), take_app (numB_length _ _), getN_numB _ _ h, take_app rfl, drop_app rfl]
theorem cnt_vec0 {k : Nat} {x : L} (h : x.length < 256 ^ k) : cnt k (vecB k x) = (x, []) := by
  have := cnt_vec (y := []) h
  rwa [List.append_nil] at this
def pad32 (x : L) : L := x ++ List.replicate (32 - x.length) 0
theorem pad32_eq {x : L} (h : x.length = 32) : pad32 x = x := by rw [pad32, h]; simp

def cl7 (R S H : L) (t : L × L) : Msg := { zeroM 1 with rnd := R, ses := S, sha := H, psk := true, tic := t.1, age := getN (t.2.take 4), mark := pad32 (((t.2.drop 4).drop 3).take 32) }
def cl5 (R S : L) (h : L × L) : Msg := if h.2 = [] then { zeroM 1 with rnd := R, ses := S, sha := h.1 } else cl7 R S h.1 (cnt 2 (((h.2.drop 8).drop 2).drop 2))
def cl4 (R S r : L) : Msg := if getN (r.take 2) = 0 then cl5 R S ([], r.drop 2) else cl5 R S (cnt 2 ((r.drop 2).drop 2))
def cl3 (R : L) (s : L × L) : Msg := cl4 R s.1 ((((s.2.drop 6).drop 2).drop 25).drop 2)
def saidClient (b : L) : Msg := cl3 (pad32 ((b.drop 2).take 32)) (cnt 1 ((b.drop 2).drop 32))

theorem said_client (m : Msg) (hk : m.kind = 1) (h : formM m = true) (hr : m.rnd.length = 32) (hm : m.mark.length = 32) : saidClient (clientB m) = m := by
  obtain ⟨k, R, M, S, H, T, N, G, C, li, ag, ps, re⟩ := m
  subst hk
  simp only [formM, okM, okF, fitM, if_true, Bool.and_eq_true, sized, wide, decide_eq_true_eq, Bool.or_eq_true, Bool.not_eq_true', some8, bne_eq_false_iff_eq, decide_eq_false_iff_not, Nat.not_lt, Nat.le_zero, List.length_eq_zero_iff] at h hr hm
  obtain ⟨⟨⟨⟨⟨⟨hN, hG⟩, hC⟩, hli⟩, hre⟩, hps⟩, ⟨⟨_, hS⟩, hH⟩, hT⟩ := h
  subst hN hG hC hli hre
  have h2 : (vecB 2 (sharesB ⟨1, R, M, S, H, T, [], [], [], 0, ag, ps, false⟩)).length < 256 ^ 2 := by
    rw [vecB_length]; unfold sharesB; dsimp only; split
    · decide
    · rw [List.length_append, vecB_length]; rcases hH with e | e
      · rename_i hn; exact absurd e (by simpa using hn)
      · rw [e]; decide
  unfold saidClient clientB
  dsimp only
  rw [drop_app (n := 2) (a := [3, 3]) rfl, take_app hr, drop_app hr, pad32_eq hr, cnt_vec (by omega)]
  unfold cl3
  dsimp only
  rw [drop_app (n := 6) (a := [0, 2, 0x13, 1, 1, 0]) rfl, vecB, drop_app (numB_length _ _), drop_app (n := 25) (a := abil) rfl]
  conv => lhs; arg 3; rw [vecB, List.append_assoc, drop_app (numB_length _ _)]
  unfold cl4
  have key : ∀ h, cl5 R S (h, offeredB ⟨1, R, M, S, H, T, [], [], [], 0, ag, ps, false⟩) = ⟨1, R, M, S, h, T, [], [], [], 0, ag, ps, false⟩ := by
    intro h
    unfold cl5 offeredB
    cases ps with
    | false =>
      obtain ⟨⟨hM, hT⟩, hA⟩ : (M = zero32 ∧ T = []) ∧ ag = 0 := by simpa using hps
      subst hM hT hA
      simp [zeroM]
    | true =>
      obtain ⟨⟨h1, h2⟩, h3, h4⟩ : (1 ≤ T.length ∧ T.length ≤ 1000) ∧ 0 ≤ ag ∧ ag ≤ 4294967295 := by simpa using hT
      dsimp only
      rw [if_pos rfl, if_neg (by simp), drop_app (n := 8) (a := [0, 0x2D, 0, 2, 1, 1, 0, 0x29]) rfl, vecB, drop_app (numB_length _ _), vecB, List.append_assoc, drop_app (numB_length _ _), List.append_assoc, cnt_vec (by omega)]
      unfold cl7
      dsimp only
      rw [take_app (numB_length _ _), drop_app (numB_length _ _), drop_app (n := 3) (a := [0, 0x21, 0x20]) rfl, List.take_of_length_le (by omega), pad32_eq hm, getN_numB _ _ (by omega), Int.toNat_of_nonneg h3]
      rfl
  by_cases hH0 : H = []
  · subst hH0
    have e : sharesB ⟨1, R, M, S, [], T, [], [], [], 0, ag, ps, false⟩ = [] := rfl
    rw [e, show vecB 2 ([] : L) = [0, 0] from rfl]
    rw [if_pos (by rfl), drop_app (n := 2) (a := [0, 0]) rfl]
    exact key []
  · have e65 : H.length = 65 := hH.resolve_left (by simpa using hH0)
    have e : sharesB ⟨1, R, M, S, H, T, [], [], [], 0, ag, ps, false⟩ = [0, 0x17] ++ vecB 2 H := if_neg hH0
    rw [e, vecB, List.append_assoc, take_app (numB_length _ _), getN_numB _ _ (by rw [List.length_append, vecB_length, e65]; decide), if_neg (by rw [List.length_append, vecB_length, e65]; decide), drop_app (numB_length _ _), List.append_assoc, drop_app (n := 2) (a := [0, 0x17]) rfl, cnt_vec (by omega)]
    exact key H

def sv3 (R : L) (s : L × L) : Msg := if R = special then { zeroM 2 with ses := s.1, retry := true } else
  (fun h : L × L => { zeroM 2 with rnd := R, ses := s.1, sha := h.1, psk := decide (0 < h.2.length) }) (cnt 2 ((((((s.2.drop 3).drop 2).drop 8).drop 2).drop 2)))
def saidServer (b : L) : Msg := sv3 (pad32 ((b.drop 2).take 32)) (cnt 1 ((b.drop 2).drop 32))
theorem said_server (m : Msg) (hk : m.kind = 2) (h : formM m = true) (hr : m.rnd.length = 32) (hm : m.mark.length = 32) : saidServer (serverB m) = m := by
  obtain ⟨k, R, M, S, H, T, N, G, C, li, ag, ps, re⟩ := m
  subst hk
  simp only [formM, okM, okF, fitM, if_true, Bool.and_eq_true, sized, wide, decide_eq_true_eq, Bool.or_eq_true, Bool.not_eq_true', some8, bne_eq_false_iff_eq, decide_eq_false_iff_not, Nat.not_lt, Nat.le_zero, List.length_eq_zero_iff, bne_iff_ne, ne_eq, show ¬ ((2 : Int) = 1) by decide, if_false] at h hr hm
  obtain ⟨⟨⟨⟨⟨⟨⟨⟨hM, hT⟩, hN⟩, hG⟩, hC⟩, hli⟩, hag⟩, hre⟩, ⟨⟨_, hS⟩, hH⟩⟩ := h
  subst hM hT hN hG hC hli hag
  unfold saidServer serverB
  dsimp only
  rw [drop_app (n := 2) (a := [3, 3]) rfl]
  have h32 : (if re = true then special else R).length = 32 := by cases re with | true => rfl | false => exact hr
  rw [take_app h32, drop_app h32, pad32_eq h32, cnt_vec (by omega)]
  unfold sv3
  cases re with
  | true =>
    obtain ⟨⟨hR, hH'⟩, hp⟩ : (R = zero32 ∧ H = []) ∧ ps = false := by simpa using hre
    subst hR hH' hp
    rfl
  | false =>
    obtain ⟨e65, hsp⟩ : H.length = 65 ∧ ¬ R = special := by simpa using hH
    dsimp only
    simp only [Bool.false_eq_true, if_false]
    rw [if_neg hsp, drop_app (n := 3) (a := [0x13, 1, 0]) rfl, vecB, drop_app (numB_length _ _), drop_app (n := 8) (a := [0, 0x2B, 0, 2, 3, 4, 0, 0x33]) rfl]
    rw [show ∀ t : L, cnt 2 (List.drop 2 (List.drop 2 (vecB 2 ([0, 23] ++ vecB 2 H) ++ t))) = (H, t) from fun t => by
      rw [vecB, List.append_assoc, drop_app (numB_length _ _), List.append_assoc, drop_app (n := 2) (a := [0, 23]) rfl, cnt_vec (by omega)]]
    cases ps <;> rfl

def saidTicket (b : L) : Msg :=
  (fun n : L × L => (fun t : L × L => { zeroM 4 with life := getN (b.take 4), age := getN ((b.drop 4).take 4), non := n.1, tic := t.1 }) (cnt 2 n.2)) (cnt 1 ((b.drop 4).drop 4))
theorem said_ticket (m : Msg) (hk : m.kind = 4) (h : formM m = true) : saidTicket (ticketB m) = m := by
  obtain ⟨k, R, M, S, H, T, N, G, C, li, ag, ps, re⟩ := m
  subst hk
  simp only [formM, okM, okF, fitM, if_true, Bool.and_eq_true, sized, wide, decide_eq_true_eq, Bool.not_eq_true', some8, bne_eq_false_iff_eq, decide_eq_false_iff_not, Nat.not_lt, Nat.le_zero, List.length_eq_zero_iff, show ¬ ((4 : Int) = 1) by decide, show ¬ ((4 : Int) = 2) by decide, if_false] at h
  obtain ⟨⟨⟨⟨⟨⟨⟨⟨hR, hM⟩, hS⟩, hH⟩, hG⟩, hC⟩, hps⟩, hre⟩, ⟨⟨⟨h1, h2⟩, h3, h4⟩, h5, h6⟩, h7, h8⟩ := h
  subst hR hM hS hH hG hC hps hre
  unfold saidTicket ticketB
  dsimp only
  rw [take_app (numB_length _ _), drop_app (numB_length _ _), take_app (numB_length _ _), drop_app (numB_length _ _), cnt_vec (by omega)]
  dsimp only
  rw [cnt_vec (by omega), getN_numB _ _ (by omega), getN_numB _ _ (by omega), Int.toNat_of_nonneg h1, Int.toNat_of_nonneg h3]
  rfl

def crts : Nat → L → List L
  | 0, _ => []
  | n + 1, r => if r = [] then [] else (cnt 3 r).1 :: crts n ((cnt 3 r).2.drop 2)
theorem crts_chain : ∀ (n : Nat) (l : List L), l.length ≤ n → (∀ c ∈ l, c.length ≤ 2048) → crts n (chainB l) = l
  | 0, [], _, _ => rfl
  | n + 1, [], _, _ => if_pos rfl
  | n + 1, c :: l, h, hc => by
    have h0 : c.length ≤ 2048 := hc c (by simp)
    rw [crts, chainB, if_neg (by intro e; have := congrArg List.length e; rw [List.length_append, vecB_length, List.length_nil] at this; omega), cnt_vec (by omega)]
    dsimp only
    rw [drop_app (n := 2) (a := [0, 0]) rfl, crts_chain n l (by simpa using h) (fun x hx => hc x (by simp [hx]))]
def saidCerts (b : L) : Msg := { zeroM 11 with certs := crts 6 ((b.drop 1).drop 3) }
theorem said_certs (m : Msg) (hk : m.kind = 11) (h : formM m = true) : saidCerts ([0] ++ vecB 3 (chainB m.certs)) = m := by
  obtain ⟨k, R, M, S, H, T, N, G, C, li, ag, ps, re⟩ := m
  subst hk
  simp only [formM, okM, okF, fitM, if_true, Bool.and_eq_true, sized, decide_eq_true_eq, Bool.not_eq_true', some8, bne_eq_false_iff_eq, decide_eq_false_iff_not, Nat.not_lt, Nat.le_zero, List.length_eq_zero_iff, List.all_eq_true, show ¬ ((11 : Int) = 1) by decide, show ¬ ((11 : Int) = 2) by decide, show ¬ ((11 : Int) = 4) by decide, show ¬ ((11 : Int) = 8) by decide, if_false] at h
  obtain ⟨⟨⟨⟨⟨⟨⟨⟨⟨⟨⟨hR, hM⟩, hS⟩, hH⟩, hT⟩, hN⟩, hG⟩, hli⟩, hag⟩, hps⟩, hre⟩, hC, hc⟩ := h
  subst hR hM hS hH hT hN hG hli hag hps hre
  unfold saidCerts
  rw [drop_app (n := 1) (a := [0]) rfl, vecB, drop_app (numB_length _ _), crts_chain 6 C (by omega) (fun c h => (hc c h).2)]
  rfl

def saidVerify (b : L) : Msg := { zeroM 15 with sig := (cnt 2 (b.drop 2)).1 }
theorem said_verify (m : Msg) (hk : m.kind = 15) (h : formM m = true) : saidVerify ([4, 3] ++ vecB 2 m.sig) = m := by
  obtain ⟨k, R, M, S, H, T, N, G, C, li, ag, ps, re⟩ := m
  subst hk
  simp only [formM, okM, okF, fitM, if_true, Bool.and_eq_true, sized, decide_eq_true_eq, Bool.not_eq_true', some8, bne_eq_false_iff_eq, decide_eq_false_iff_not, Nat.not_lt, Nat.le_zero, List.length_eq_zero_iff, show ¬ ((15 : Int) = 1) by decide, show ¬ ((15 : Int) = 2) by decide, show ¬ ((15 : Int) = 4) by decide, show ¬ ((15 : Int) = 8) by decide, show ¬ ((15 : Int) = 11) by decide, show ¬ ((15 : Int) = 13) by decide, if_false] at h
  obtain ⟨⟨⟨⟨⟨⟨⟨⟨⟨⟨⟨hR, hM⟩, hS⟩, hH⟩, hT⟩, hN⟩, hC⟩, hli⟩, hag⟩, hps⟩, hre⟩, hg⟩ := h
  subst hR hM hS hH hT hN hC hli hag hps hre
  unfold saidVerify
  dsimp only
  rw [drop_app (n := 2) (a := [4, 3]) rfl, cnt_vec0 (by omega)]
  rfl
def saidFinished (b : L) : Msg := { zeroM 20 with mark := pad32 (b.take 32) }
theorem okM_none (m : Msg) (k : Int) (hk : m.kind = k) (hk' : k = 8 ∨ k = 13) (h : formM m = true) : m = zeroM k := by
  obtain ⟨k', R, M, S, H, T, N, G, C, li, ag, ps, re⟩ := m
  subst hk
  rcases hk' with e | e <;> subst e <;> simp only [formM, okM, okF, Bool.and_eq_true, Bool.not_eq_true', some8, bne_eq_false_iff_eq, decide_eq_false_iff_not, Nat.not_lt, Nat.le_zero, List.length_eq_zero_iff, if_true, show ¬ ((8 : Int) = 1) by decide, show ¬ ((8 : Int) = 2) by decide, show ¬ ((8 : Int) = 4) by decide, show ¬ ((13 : Int) = 1) by decide, show ¬ ((13 : Int) = 2) by decide, show ¬ ((13 : Int) = 4) by decide, show ¬ ((13 : Int) = 8) by decide, show ¬ ((13 : Int) = 11) by decide, if_false] at h
  all_goals
    obtain ⟨⟨⟨⟨⟨⟨⟨⟨⟨⟨⟨⟨hR, hM⟩, hS⟩, hH⟩, hT⟩, hN⟩, hG⟩, hC⟩, hli⟩, hag⟩, hps⟩, hre⟩, _⟩ := h
    subst hR hM hS hH hT hN hG hC hli hag hps hre
    rfl
theorem said_finished (m : Msg) (hk : m.kind = 20) (h : formM m = true) (hm : m.mark.length = 32) : saidFinished m.mark = m := by
  obtain ⟨k, R, M, S, H, T, N, G, C, li, ag, ps, re⟩ := m
  subst hk
  simp only [formM, okM, okF, Bool.and_eq_true, Bool.not_eq_true', some8, bne_eq_false_iff_eq, decide_eq_false_iff_not, Nat.not_lt, Nat.le_zero, List.length_eq_zero_iff, if_true, show ¬ ((20 : Int) = 1) by decide, show ¬ ((20 : Int) = 2) by decide, show ¬ ((20 : Int) = 4) by decide, show ¬ ((20 : Int) = 8) by decide, show ¬ ((20 : Int) = 11) by decide, show ¬ ((20 : Int) = 13) by decide, show ¬ ((20 : Int) = 15) by decide, if_false] at h
  obtain ⟨⟨⟨⟨⟨⟨⟨⟨⟨⟨⟨hR, hS⟩, hH⟩, hT⟩, hN⟩, hG⟩, hC⟩, hli⟩, hag⟩, hps⟩, hre⟩, _⟩ := h
  subst hR hS hH hT hN hG hC hli hag hps hre
  unfold saidFinished
  dsimp only at hm ⊢
  rw [List.take_of_length_le (by omega), pad32_eq hm]
  rfl

/-- what the code's way of reading finds -/
def saidM (k : Int) (b : L) : Msg :=
  if k = 1 then saidClient b else if k = 2 then saidServer b else if k = 4 then saidTicket b
  else if k = 11 then saidCerts b else if k = 15 then saidVerify b else if k = 20 then saidFinished b else zeroM k
theorem form_kind {m : Msg} (h : formM m = true) : isKind m.kind = true := by
  have h1 : okM m = true := by simp only [formM, Bool.and_eq_true] at h; exact h.1
  unfold okM okF at h1
  unfold isKind
  generalize m.kind = k at *
  by_cases h' : k = 1 ∨ k = 2 ∨ k = 4 ∨ k = 8 ∨ k = 11 ∨ k = 13 ∨ k = 15 ∨ k = 20
  · rcases h' with e | e | e | e | e | e | e | e <;> subst e <;> rfl
  · simp only [not_or] at h'
    obtain ⟨a1, a2, a3, a4, a5, a6, a7, a8⟩ := h'
    simp [a1, a2, a3, a4, a5, a6, a7, a8] at h1
theorem kinds {k : Int} (h : isKind k = true) : k = 1 ∨ k = 2 ∨ k = 4 ∨ k = 8 ∨ k = 11 ∨ k = 13 ∨ k = 15 ∨ k = 20 := by
  simpa [isKind, or_assoc] using h
theorem said_body (m : Msg) (h : formM m = true) (hr : m.rnd.length = 32) (hm : m.mark.length = 32) : saidM m.kind (bodyM m) = m := by
  rcases kinds (form_kind h) with e | e | e | e | e | e | e | e
  · simp only [saidM, bodyM, e, if_true]; exact said_client m e h hr hm
  · simp only [saidM, bodyM, e, if_true, show ¬ ((2 : Int) = 1) by decide, if_false]; exact said_server m e h hr hm
  · simp only [saidM, bodyM, e, if_true, show ¬ ((4 : Int) = 1) by decide, show ¬ ((4 : Int) = 2) by decide, if_false]; exact said_ticket m e h
  · rw [okM_none m 8 e (.inl rfl) h]; rfl
  · simp only [saidM, bodyM, e, if_true, show ¬ ((11 : Int) = 1) by decide, show ¬ ((11 : Int) = 2) by decide, show ¬ ((11 : Int) = 4) by decide, show ¬ ((11 : Int) = 8) by decide, if_false]; exact said_certs m e h
  · rw [okM_none m 13 e (.inr rfl) h]; rfl
  · simp only [saidM, bodyM, e, if_true, show ¬ ((15 : Int) = 1) by decide, show ¬ ((15 : Int) = 2) by decide, show ¬ ((15 : Int) = 4) by decide, show ¬ ((15 : Int) = 8) by decide, show ¬ ((15 : Int) = 11) by decide, show ¬ ((15 : Int) = 13) by decide, if_false]; exact said_verify m e h
  · simp only [saidM, bodyM, e, if_true, show ¬ ((20 : Int) = 1) by decide, show ¬ ((20 : Int) = 2) by decide, show ¬ ((20 : Int) = 4) by decide, show ¬ ((20 : Int) = 8) by decide, show ¬ ((20 : Int) = 11) by decide, show ¬ ((20 : Int) = 13) by decide, show ¬ ((20 : Int) = 15) by decide, if_false]; exact said_finished m e h hm
end HelloMath
