/-
  The document's way of reading a message, by the places where its parts would stand: it finds what was written; what Read tells, both ways.
-/
import Derived.Test.YtagblbfbjemfhaaDoorHM
namespace HelloMath

/-- so many bytes from a place on; noughts behind the end -/
def atB (b : L) (f n : Nat) : L := if b.length < f ∨ b.length - f < n then List.replicate n 0 else (b.drop f).take n
theorem atB_eq {b x y z : L} {f n : Nat} (e : b = x ++ (y ++ z)) (hx : x.length = f) (hy : y.length = n) : atB b f n = y := by
  subst e hx hy
  unfold atB
  rw [if_neg (by simp only [List.length_append]; omega), List.drop_left, List.take_left]
theorem atB_length (b : L) (f n : Nat) : (atB b f n).length = n := by
  unfold atB
  split
  · simp
  · rw [List.length_take, List.length_drop]; omega
def gSha (b : L) (p : Nat) : L × Nat := if 0 < getN (atB b (p - 2) 2) then (atB b (p + 4) 65, p + 69) else ([], p)
def gPsk (b R S : L) (h : L × Nat) : Msg :=
  if h.2 < b.length then { zeroM 1 with rnd := R, ses := S, sha := h.1, psk := true, tic := atB b (h.2 + 14) (min (getN (atB b (h.2 + 12) 2)) 1000), age := getN (atB b (h.2 + 14 + min (getN (atB b (h.2 + 12) 2)) 1000) 4), mark := atB b (h.2 + 14 + min (getN (atB b (h.2 + 12) 2)) 1000 + 4 + 3) 32 }
  else { zeroM 1 with rnd := R, ses := S, sha := h.1 }
def guessClient (b : L) : Msg := gPsk b (atB b 2 32) (atB b 35 (min (getN (atB b 34 1)) 32)) (gSha b (35 + min (getN (atB b 34 1)) 32 + 6 + 2 + 7 + 8 + 8 + 6))
theorem guess_client (m : Msg) (hk : m.kind = 1) (h : formM m = true) (hr : m.rnd.length = 32) (hm : m.mark.length = 32) : guessClient (clientB m) = m := by
  obtain ⟨k, R, M, S, H, T, N, G, C, li, ag, ps, re⟩ := m
  subst hk
  simp only [formM, okM, okF, fitM, if_true, Bool.and_eq_true, sized, wide, decide_eq_true_eq, Bool.or_eq_true, Bool.not_eq_true', some8, bne_eq_false_iff_eq, decide_eq_false_iff_not, Nat.not_lt, Nat.le_zero, List.length_eq_zero_iff] at h hr hm
  obtain ⟨⟨⟨⟨⟨⟨hN, hG⟩, hC⟩, hli⟩, hre⟩, hps⟩, ⟨⟨_, hS⟩, hH⟩, hT⟩ := h
  subst hN hG hC hli hre
  obtain ⟨off, hoff⟩ : ∃ s, offeredB ⟨1, R, M, S, H, T, [], [], [], 0, ag, ps, false⟩ = s := ⟨_, rfl⟩
  obtain ⟨sh, hsh⟩ : ∃ s, sharesB ⟨1, R, M, S, H, T, [], [], [], 0, ag, ps, false⟩ = s := ⟨_, rfl⟩
  obtain ⟨E, hE⟩ : ∃ s, abil ++ (vecB 2 (vecB 2 sh) ++ off) = s := ⟨_, rfl⟩
  obtain ⟨b, hb⟩ : ∃ b, clientB ⟨1, R, M, S, H, T, [], [], [], 0, ag, ps, false⟩ = b := ⟨_, rfl⟩
  have eb : b = [3, 3] ++ (R ++ (numB 1 S.length ++ (S ++ ([0, 2, 0x13, 1, 1, 0] ++ (numB 2 E.length ++ (abil ++ (numB 2 (vecB 2 sh).length ++ (numB 2 sh.length ++ (sh ++ off))))))))) := by
    rw [← hb, ← hE]; unfold clientB; dsimp only; rw [hoff, hsh]; simp only [vecB, List.append_assoc]
  rw [hb]
  have a1 : atB b 2 32 = R := atB_eq eb rfl hr
  have a2 : getN (atB b 34 1) = S.length := by
    rw [atB_eq (x := [3, 3] ++ R) (y := numB 1 S.length) (by rw [eb, List.append_assoc]) (by rw [List.length_append, hr]; rfl) (numB_length _ _), getN_numB _ _ (by omega)]
  have a3 : min S.length 32 = S.length := by omega
  have a4 : atB b 35 S.length = S := by
    refine atB_eq (x := [3, 3] ++ (R ++ numB 1 S.length)) (y := S) (by rw [eb]; simp only [List.append_assoc]; rfl) ?_ rfl
    simp only [List.length_append, hr, numB_length, List.length_cons, List.length_nil]
  unfold guessClient
  rw [a1, a2, a3, a4]
  obtain ⟨P, hP⟩ : ∃ s, [3, 3] ++ (R ++ (numB 1 S.length ++ (S ++ ([0, 2, 0x13, 1, 1, 0] ++ (numB 2 E.length ++ (abil ++ (numB 2 (vecB 2 sh).length))))))) = s := ⟨_, rfl⟩
  have lP : P.length = S.length + 70 := by
    rw [← hP]; simp only [List.length_append, hr, numB_length, abil, List.length_cons, List.length_nil]; omega
  have eP : b = P ++ (numB 2 sh.length ++ (sh ++ off)) := by rw [eb, ← hP]; simp only [List.append_assoc]
  have hq : 35 + S.length + 6 + 2 + 7 + 8 + 8 + 6 = S.length + 72 := by omega
  rw [hq]
  have key : ∀ H' p, b.length = p + off.length → (∃ Q : L, Q.length = p ∧ b = Q ++ off) → gPsk b R S (H', p) = ⟨1, R, M, S, H', T, [], [], [], 0, ag, ps, false⟩ := by
    intro H' p hl ⟨Q, hQ, eQ⟩
    unfold gPsk
    dsimp only
    cases ps with
    | false =>
      obtain ⟨⟨hM, hT⟩, hA⟩ : (M = zero32 ∧ T = []) ∧ ag = 0 := by simpa using hps
      subst hM hT hA
      have : off = [] := by rw [← hoff]; rfl
      subst this
      rw [if_neg (by rw [hl]; simp)]
      rfl
    | true =>
      obtain ⟨⟨h1, h2⟩, h3, h4⟩ : (1 ≤ T.length ∧ T.length ≤ 1000) ∧ 0 ≤ ag ∧ ag ≤ 4294967295 := by simpa using hT
      obtain ⟨X, Y, eo, lX⟩ : ∃ X Y : L, off = X ++ (numB 2 T.length ++ (T ++ (numB 4 ag.toNat ++ ([0, 0x21, 0x20] ++ (M ++ Y))))) ∧ X.length = 12 := by
        refine ⟨[0, 0x2D, 0, 2, 1, 1, 0, 0x29] ++ (numB 2 (vecB 2 (vecB 2 T ++ numB 4 ag.toNat) ++ ([0, 0x21, 0x20] ++ M)).length ++ numB 2 (vecB 2 T ++ numB 4 ag.toNat).length), [], ?_, by simp [numB_length]⟩
        rw [← hoff]; unfold offeredB; rw [if_pos rfl]; dsimp only
        simp only [vecB, List.append_assoc, List.append_nil]
      have lo : 0 < off.length := by rw [eo, List.length_append, lX]; omega
      have b1 : getN (atB b (p + 12) 2) = T.length := by
        rw [atB_eq (x := Q ++ X) (y := numB 2 T.length) (by rw [eQ, eo, List.append_assoc]) (by rw [List.length_append, hQ, lX]) (numB_length _ _), getN_numB _ _ (by omega)]
      have b2 : min T.length 1000 = T.length := by omega
      have b3 : atB b (p + 14) T.length = T := atB_eq (x := Q ++ (X ++ numB 2 T.length)) (by rw [eQ, eo]; simp only [List.append_assoc]; rfl) (by simp only [List.length_append, numB_length, hQ, lX]) rfl
      have b4 : getN (atB b (p + 14 + T.length) 4) = ag.toNat := by
        rw [atB_eq (x := Q ++ (X ++ (numB 2 T.length ++ T))) (y := numB 4 ag.toNat) (by rw [eQ, eo]; simp only [List.append_assoc]; rfl) (by simp only [List.length_append, numB_length, hQ, lX]; omega) (numB_length _ _), getN_numB _ _ (by omega)]
      have b5 : atB b (p + 14 + T.length + 4 + 3) 32 = M := atB_eq (x := Q ++ (X ++ (numB 2 T.length ++ (T ++ (numB 4 ag.toNat ++ [0, 0x21, 0x20]))))) (by rw [eQ, eo]; simp only [List.append_assoc]; rfl) (by simp only [List.length_append, numB_length, hQ, lX, List.length_cons, List.length_nil]; omega) hm
      rw [if_pos (by rw [hl]; omega), b1, b2, b3, b4, b5, Int.toNat_of_nonneg h3]
      rfl
  have hlen : b.length = P.length + (2 + (sh.length + off.length)) := by rw [eP]; simp only [List.length_append, numB_length]
  unfold gSha
  rw [show S.length + 72 - 2 = S.length + 70 by omega, atB_eq eP lP (numB_length _ _)]
  by_cases hH0 : H = []
  · subst hH0
    have e : sh = [] := by rw [← hsh]; rfl
    subst e
    rw [if_neg (by decide)]
    exact key [] _ (by rw [hlen, lP, List.length_nil]; omega) ⟨P ++ numB 2 0, by rw [List.length_append, lP]; rfl, by rw [eP]; simp only [List.append_assoc]; rfl⟩
  · have e65 : H.length = 65 := hH.resolve_left (by simpa using hH0)
    have e : sh = [0, 0x17] ++ (numB 2 H.length ++ H) := by rw [← hsh]; exact if_neg hH0
    have l : sh.length = 69 := by rw [e]; simp only [List.length_append, numB_length, e65, List.length_cons, List.length_nil]
    rw [getN_numB _ _ (by omega), if_pos (by omega)]
    rw [atB_eq (x := P ++ (numB 2 sh.length ++ ([0, 0x17] ++ numB 2 H.length))) (y := H) (z := off) (by rw [eP, e]; simp only [List.append_assoc]) (by simp only [List.length_append, numB_length, lP, List.length_cons, List.length_nil]) e65]
    exact key H _ (by rw [hlen, lP, l]; omega) ⟨P ++ (numB 2 sh.length ++ sh), by simp only [List.length_append, numB_length, lP, l], by rw [eP]; simp only [List.append_assoc]⟩

def guessServer (b : L) : Msg :=
  if atB b 2 32 = special then { zeroM 2 with ses := atB b 35 (min (getN (atB b 34 1)) 32), retry := true }
  else { zeroM 2 with rnd := atB b 2 32, ses := atB b 35 (min (getN (atB b 34 1)) 32), sha := atB b (35 + min (getN (atB b 34 1)) 32 + 3 + 2 + 6 + 4 + 4) 65, psk := decide (35 + min (getN (atB b 34 1)) 32 + 3 + 2 + 6 + 4 + 69 < b.length) }
theorem guess_server (m : Msg) (hk : m.kind = 2) (h : formM m = true) (hr : m.rnd.length = 32) : guessServer (serverB m) = m := by
  obtain ⟨k, R, M, S, H, T, N, G, C, li, ag, ps, re⟩ := m
  subst hk
  simp only [formM, okM, okF, fitM, if_true, Bool.and_eq_true, sized, decide_eq_true_eq, Bool.or_eq_true, Bool.not_eq_true', some8, bne_eq_false_iff_eq, decide_eq_false_iff_not, Nat.not_lt, Nat.le_zero, List.length_eq_zero_iff, bne_iff_ne, ne_eq, show ¬ ((2 : Int) = 1) by decide, if_false] at h hr
  obtain ⟨⟨⟨⟨⟨⟨⟨⟨hM, hT⟩, hN⟩, hG⟩, hC⟩, hli⟩, hag⟩, hre⟩, ⟨⟨_, hS⟩, hH⟩⟩ := h
  subst hM hT hN hG hC hli hag
  obtain ⟨R', hR'⟩ : ∃ s, (if re = true then special else R) = s := ⟨_, rfl⟩
  have l' : R'.length = 32 := by rw [← hR']; cases re with | true => rfl | false => exact hr
  obtain ⟨tl, htl⟩ : ∃ s : L, (if ps = true then [0, 0x29, 0, 2, 0, 0] else []) = s := ⟨_, rfl⟩
  obtain ⟨sh, hsh⟩ : ∃ s : L, (if re = true then [] else vecB 2 H) = s := ⟨_, rfl⟩
  obtain ⟨E, hE⟩ : ∃ s : L, [0, 0x2B, 0, 2, 3, 4, 0, 0x33] ++ (vecB 2 ([0, 0x17] ++ sh) ++ tl) = s := ⟨_, rfl⟩
  obtain ⟨b, hb⟩ : ∃ b, serverB ⟨2, R, zero32, S, H, [], [], [], [], 0, 0, ps, re⟩ = b := ⟨_, rfl⟩
  have eb : b = [3, 3] ++ (R' ++ (numB 1 S.length ++ (S ++ ([0x13, 1, 0] ++ (numB 2 E.length ++ ([0, 0x2B, 0, 2, 3, 4, 0, 0x33] ++ (numB 2 ([0, 0x17] ++ sh).length ++ ([0, 0x17] ++ (sh ++ tl))))))))) := by
    rw [← hb, ← hE]; unfold serverB; dsimp only; rw [hR', hsh, htl]; simp only [vecB, List.append_assoc]
  have a1 : atB b 2 32 = R' := atB_eq eb rfl l'
  have a2 : getN (atB b 34 1) = S.length := by
    rw [atB_eq (x := [3, 3] ++ R') (y := numB 1 S.length) (by rw [eb, List.append_assoc]) (by rw [List.length_append, l']; rfl) (numB_length _ _), getN_numB _ _ (by omega)]
  have a3 : min S.length 32 = S.length := by omega
  have a4 : atB b 35 S.length = S := by
    refine atB_eq (x := [3, 3] ++ (R' ++ numB 1 S.length)) (y := S) (by rw [eb]; simp only [List.append_assoc]; rfl) ?_ rfl
    simp only [List.length_append, l', numB_length, List.length_cons, List.length_nil]
  rw [hb]
  unfold guessServer
  rw [a1, a2, a3, a4]
  cases re with
  | true =>
    obtain ⟨⟨hR, hH'⟩, hp⟩ : (R = zero32 ∧ H = []) ∧ ps = false := by simpa using hre
    subst hR hH' hp
    rw [if_pos (by rw [← hR']; rfl)]
    rfl
  | false =>
    obtain ⟨e65, hsp⟩ : H.length = 65 ∧ ¬ R = special := by simpa using hH
    have e1 : R' = R := by rw [← hR']; rfl
    have e2 : sh = numB 2 H.length ++ H := by rw [← hsh]; rfl
    subst e1
    rw [if_neg hsp, atB_eq (x := [3, 3] ++ (R' ++ (numB 1 S.length ++ (S ++ ([0x13, 1, 0] ++ (numB 2 E.length ++ ([0, 0x2B, 0, 2, 3, 4, 0, 0x33] ++ (numB 2 ([0, 0x17] ++ sh).length ++ ([0, 0x17] ++ numB 2 H.length))))))))) (y := H) (z := tl) (by rw [eb]; simp only [e2, List.append_assoc]) (by simp only [List.length_append, l', numB_length, List.length_cons, List.length_nil]; omega) e65]
    have hl : b.length = S.length + 119 + tl.length := by rw [eb, e2]; simp only [List.length_append, l', numB_length, List.length_cons, List.length_nil, e65]; omega
    have : decide (35 + S.length + 3 + 2 + 6 + 4 + 69 < b.length) = ps := by
      rw [hl, ← htl]; cases ps <;> simp <;> omega
    rw [this]
    rfl

def guessTicket (b : L) : Msg := { zeroM 4 with life := getN (atB b 0 4), age := getN (atB b 4 4), non := atB b 9 (min (getN (atB b 8 1)) 8), tic := atB b (9 + min (getN (atB b 8 1)) 8 + 2) (min (getN (atB b (9 + min (getN (atB b 8 1)) 8) 2)) 1000) }
theorem guess_ticket (m : Msg) (hk : m.kind = 4) (h : formM m = true) : guessTicket (ticketB m) = m := by
  obtain ⟨k, R, M, S, H, T, N, G, C, li, ag, ps, re⟩ := m
  subst hk
  simp only [formM, okM, okF, fitM, if_true, Bool.and_eq_true, sized, wide, decide_eq_true_eq, Bool.not_eq_true', some8, bne_eq_false_iff_eq, decide_eq_false_iff_not, Nat.not_lt, Nat.le_zero, List.length_eq_zero_iff, show ¬ ((4 : Int) = 1) by decide, show ¬ ((4 : Int) = 2) by decide, if_false] at h
  obtain ⟨⟨⟨⟨⟨⟨⟨⟨hR, hM⟩, hS⟩, hH⟩, hG⟩, hC⟩, hps⟩, hre⟩, ⟨⟨⟨h1, h2⟩, h3, h4⟩, h5, h6⟩, h7, h8⟩ := h
  subst hR hM hS hH hG hC hps hre
  obtain ⟨b, hb⟩ : ∃ b, ticketB ⟨4, zero32, zero32, [], [], T, N, [], [], li, ag, false, false⟩ = b := ⟨_, rfl⟩
  have eb : b = numB 4 li.toNat ++ (numB 4 ag.toNat ++ (numB 1 N.length ++ (N ++ (numB 2 T.length ++ (T ++ [0, 0]))))) := by
    rw [← hb]; unfold ticketB; simp only [vecB, List.append_assoc]
  have a1 : getN (atB b 0 4) = li.toNat := by rw [atB_eq (b := b) (f := 0) (n := 4) (x := []) (y := numB 4 li.toNat) (by rw [eb]; rfl) rfl (numB_length _ _), getN_numB _ _ (by omega)]
  have a2 : getN (atB b 4 4) = ag.toNat := by rw [atB_eq eb (numB_length _ _) (numB_length _ _), getN_numB _ _ (by omega)]
  have a3 : getN (atB b 8 1) = N.length := by
    rw [atB_eq (x := numB 4 li.toNat ++ numB 4 ag.toNat) (y := numB 1 N.length) (by rw [eb, List.append_assoc]) (by simp only [List.length_append, numB_length]) (numB_length _ _), getN_numB _ _ (by omega)]
  have a4 : min N.length 8 = N.length := by omega
  have a5 : atB b 9 N.length = N := atB_eq (x := numB 4 li.toNat ++ (numB 4 ag.toNat ++ numB 1 N.length)) (by rw [eb]; simp only [List.append_assoc]; rfl) (by simp only [List.length_append, numB_length]) rfl
  have a6 : getN (atB b (9 + N.length) 2) = T.length := by
    rw [atB_eq (x := numB 4 li.toNat ++ (numB 4 ag.toNat ++ (numB 1 N.length ++ N))) (y := numB 2 T.length) (by rw [eb]; simp only [List.append_assoc]; rfl) (by simp only [List.length_append, numB_length]; omega) (numB_length _ _), getN_numB _ _ (by omega)]
  have a7 : min T.length 1000 = T.length := by omega
  have a8 : atB b (9 + N.length + 2) T.length = T := atB_eq (x := numB 4 li.toNat ++ (numB 4 ag.toNat ++ (numB 1 N.length ++ (N ++ numB 2 T.length)))) (by rw [eb]; simp only [List.append_assoc]; rfl) (by simp only [List.length_append, numB_length]; omega) rfl
  rw [hb]
  unfold guessTicket
  rw [a1, a2, a3, a4, a5, a6, a7, a8, Int.toNat_of_nonneg h1, Int.toNat_of_nonneg h3]
  rfl

def gCrt (b : L) (p : Nat) : L := atB b (p + 3) (min (getN (atB b p 3)) 2048)
def gCrts (b : L) : Nat → Nat → List L
  | 0, _ => []
  | n + 1, p => if p < b.length then gCrt b p :: gCrts b n (p + 3 + min (getN (atB b p 3)) 2048 + 2) else []
theorem gCrts_chain (b : L) : ∀ (n p : Nat) (l : List L) (Q : L), b = Q ++ chainB l → Q.length = p → l.length ≤ n → (∀ c ∈ l, c.length ≤ 2048) → gCrts b n p = l
  | 0, p, [], Q, e, hQ, _, _ => rfl
  | n + 1, p, [], Q, e, hQ, _, _ => by
    rw [gCrts, if_neg]
    rw [e, List.length_append, hQ, show (chainB []).length = 0 from rfl]; omega
  | n + 1, p, c :: l, Q, e, hQ, h, hc => by
    have h0 : c.length ≤ 2048 := hc c (by simp)
    have e' : b = Q ++ (numB 3 c.length ++ (c ++ ([0, 0] ++ chainB l))) := by rw [e, chainB, vecB]; simp only [List.append_assoc]
    have a1 : getN (atB b p 3) = c.length := by rw [atB_eq e' hQ (numB_length _ _), getN_numB _ _ (by omega)]
    have a2 : min c.length 2048 = c.length := by omega
    have a3 : atB b (p + 3) c.length = c := atB_eq (x := Q ++ numB 3 c.length) (by rw [e']; simp only [List.append_assoc]; rfl) (by simp only [List.length_append, numB_length, hQ]) rfl
    rw [gCrts, gCrt, if_pos (by rw [e']; simp only [List.length_append, numB_length, hQ]; omega), a1, a2, a3, gCrts_chain b n _ l (Q ++ (numB 3 c.length ++ (c ++ [0, 0]))) (by rw [e']; simp only [List.append_assoc]) (by simp only [List.length_append, numB_length, hQ, List.length_cons, List.length_nil]; omega) (by simpa using h) (fun x hx => hc x (by simp [hx]))]
def guessCerts (b : L) : Msg := { zeroM 11 with certs := gCrts b 6 4 }
theorem guess_certs (m : Msg) (hk : m.kind = 11) (h : formM m = true) : guessCerts ([0] ++ vecB 3 (chainB m.certs)) = m := by
  obtain ⟨k, R, M, S, H, T, N, G, C, li, ag, ps, re⟩ := m
  subst hk
  simp only [formM, okM, okF, fitM, if_true, Bool.and_eq_true, sized, decide_eq_true_eq, Bool.not_eq_true', some8, bne_eq_false_iff_eq, decide_eq_false_iff_not, Nat.not_lt, Nat.le_zero, List.length_eq_zero_iff, List.all_eq_true, show ¬ ((11 : Int) = 1) by decide, show ¬ ((11 : Int) = 2) by decide, show ¬ ((11 : Int) = 4) by decide, show ¬ ((11 : Int) = 8) by decide, if_false] at h
  obtain ⟨⟨⟨⟨⟨⟨⟨⟨⟨⟨⟨hR, hM⟩, hS⟩, hH⟩, hT⟩, hN⟩, hG⟩, hli⟩, hag⟩, hps⟩, hre⟩, hC, hc⟩ := h
  subst hR hM hS hH hT hN hG hli hag hps hre
  unfold guessCerts
  rw [gCrts_chain _ 6 4 C ([0] ++ numB 3 (chainB C).length) (by rw [vecB, List.append_assoc]) (by simp only [List.length_append, numB_length, List.length_cons, List.length_nil]) (by omega) (fun c h => (hc c h).2)]
  rfl
def guessVerify (b : L) : Msg := { zeroM 15 with sig := atB b 4 (min (getN (atB b 2 2)) 100) }
theorem guess_verify (m : Msg) (hk : m.kind = 15) (h : formM m = true) : guessVerify ([4, 3] ++ vecB 2 m.sig) = m := by
  obtain ⟨k, R, M, S, H, T, N, G, C, li, ag, ps, re⟩ := m
  subst hk
  simp only [formM, okM, okF, fitM, if_true, Bool.and_eq_true, sized, decide_eq_true_eq, Bool.not_eq_true', some8, bne_eq_false_iff_eq, decide_eq_false_iff_not, Nat.not_lt, Nat.le_zero, List.length_eq_zero_iff, show ¬ ((15 : Int) = 1) by decide, show ¬ ((15 : Int) = 2) by decide, show ¬ ((15 : Int) = 4) by decide, show ¬ ((15 : Int) = 8) by decide, show ¬ ((15 : Int) = 11) by decide, show ¬ ((15 : Int) = 13) by decide, if_false] at h
  obtain ⟨⟨⟨⟨⟨⟨⟨⟨⟨⟨⟨hR, hM⟩, hS⟩, hH⟩, hT⟩, hN⟩, hC⟩, hli⟩, hag⟩, hps⟩, hre⟩, hg⟩ := h
  subst hR hM hS hH hT hN hC hli hag hps hre
  unfold guessVerify
  dsimp only
  have a1 : getN (atB ([4, 3] ++ vecB 2 G) 2 2) = G.length := by rw [atB_eq (b := [4, 3] ++ vecB 2 G) (f := 2) (n := 2) (x := [4, 3]) (y := numB 2 G.length) (z := G) rfl rfl (numB_length _ _), getN_numB _ _ (by omega)]
  have a2 : min G.length 100 = G.length := by omega
  rw [a1, a2, atB_eq (x := [4, 3] ++ numB 2 G.length) (y := G) (z := []) (by rw [vecB]; simp only [List.append_assoc, List.append_nil]) (by simp only [List.length_append, numB_length, List.length_cons, List.length_nil]) rfl]
  rfl
def guessFinished (b : L) : Msg := { zeroM 20 with mark := atB b 0 32 }
theorem guess_finished (m : Msg) (hk : m.kind = 20) (h : formM m = true) (hm : m.mark.length = 32) : guessFinished m.mark = m := by
  obtain ⟨k, R, M, S, H, T, N, G, C, li, ag, ps, re⟩ := m
  subst hk
  simp only [formM, okM, okF, Bool.and_eq_true, Bool.not_eq_true', some8, bne_eq_false_iff_eq, decide_eq_false_iff_not, Nat.not_lt, Nat.le_zero, List.length_eq_zero_iff, if_true, show ¬ ((20 : Int) = 1) by decide, show ¬ ((20 : Int) = 2) by decide, show ¬ ((20 : Int) = 4) by decide, show ¬ ((20 : Int) = 8) by decide, show ¬ ((20 : Int) = 11) by decide, show ¬ ((20 : Int) = 13) by decide, show ¬ ((20 : Int) = 15) by decide, if_false] at h
  obtain ⟨⟨⟨⟨⟨⟨⟨⟨⟨⟨⟨hR, hS⟩, hH⟩, hT⟩, hN⟩, hG⟩, hC⟩, hli⟩, hag⟩, hps⟩, hre⟩, _⟩ := h
  subst hR hS hH hT hN hG hC hli hag hps hre
  unfold guessFinished
  dsimp only at hm ⊢
  rw [atB_eq (f := 0) (n := 32) (x := []) (y := M) (z := []) (by simp) rfl hm]
  rfl
/-- what the document's way of reading finds -/
def guessM (k : Int) (b : L) : Msg :=
  if k = 1 then guessClient b else if k = 2 then guessServer b else if k = 4 then guessTicket b
  else if k = 11 then guessCerts b else if k = 15 then guessVerify b else if k = 20 then guessFinished b else zeroM k
theorem guess_body (m : Msg) (h : formM m = true) (hr : m.rnd.length = 32) (hm : m.mark.length = 32) : guessM m.kind (bodyM m) = m := by
  rcases kinds (form_kind h) with e | e | e | e | e | e | e | e
  · simp only [guessM, bodyM, e, if_true]; exact guess_client m e h hr hm
  · simp only [guessM, bodyM, e, if_true, show ¬ ((2 : Int) = 1) by decide, if_false]; exact guess_server m e h hr
  · simp only [guessM, bodyM, e, if_true, show ¬ ((4 : Int) = 1) by decide, show ¬ ((4 : Int) = 2) by decide, if_false]; exact guess_ticket m e h
  · rw [okM_none m 8 e (.inl rfl) h]; rfl
  · simp only [guessM, bodyM, e, if_true, show ¬ ((11 : Int) = 1) by decide, show ¬ ((11 : Int) = 2) by decide, show ¬ ((11 : Int) = 4) by decide, show ¬ ((11 : Int) = 8) by decide, if_false]; exact guess_certs m e h
  · rw [okM_none m 13 e (.inr rfl) h]; rfl
  · simp only [guessM, bodyM, e, if_true, show ¬ ((15 : Int) = 1) by decide, show ¬ ((15 : Int) = 2) by decide, show ¬ ((15 : Int) = 4) by decide, show ¬ ((15 : Int) = 8) by decide, show ¬ ((15 : Int) = 11) by decide, show ¬ ((15 : Int) = 13) by decide, if_false]; exact guess_verify m e h
  · simp only [guessM, bodyM, e, if_true, show ¬ ((20 : Int) = 1) by decide, show ¬ ((20 : Int) = 2) by decide, show ¬ ((20 : Int) = 4) by decide, show ¬ ((20 : Int) = 8) by decide, show ¬ ((20 : Int) = 11) by decide, show ¬ ((20 : Int) = 13) by decide, show ¬ ((20 : Int) = 15) by decide, if_false]; exact guess_finished m e h hm

/-- what Read tells: the message, how many bytes, the error -/
def headE (b : L) : Option Nat :=
  if 0 < b.length ∧ isKind (b.getD 0 0).toNat = false then some 2
  else if b.length < 4 then some 3
  else if 32768 < getN ((b.drop 1).take 3) then some 4
  else if b.length - 4 < getN ((b.drop 1).take 3) then some 3
  else none
def readBy (find : Int → L → Msg) (b : L) : Msg × Nat × Nat :=
  match headE b with
  | some e => (zeroM 0, 0, e)
  | none =>
    let n := getN ((b.drop 1).take 3)
    let m := find (b.getD 0 0).toNat ((b.drop 4).take n)
    if formM m = true ∧ wholeM m = b.take (4 + n) then (m, 4 + n, 0) else (zeroM 0, 0, 2)
theorem whole_parts {m : Msg} {b : L} (hk : 0 ≤ m.kind ∧ m.kind < 256) (hb : (bodyM m).length < 16777216) (e : wholeM m = b) : ((b.getD 0 0).toNat : Int) = m.kind ∧ getN ((b.drop 1).take 3) = (bodyM m).length ∧ b.drop 4 = bodyM m := by
  subst e
  unfold wholeM
  refine ⟨?_, ?_, ?_⟩
  · simp only [List.cons_append, List.nil_append, List.getD_cons_zero, UInt8.toNat_ofNat']; omega
  · rw [drop_app (n := 1) rfl, vecB, take_app (numB_length _ _), getN_numB _ _ hb]
  · rw [show [UInt8.ofNat m.kind.toNat] ++ vecB 3 (bodyM m) = ([UInt8.ofNat m.kind.toNat] ++ numB 3 (bodyM m).length) ++ bodyM m by rw [vecB, List.append_assoc], drop_app (by rw [List.length_append, numB_length]; rfl)]
theorem whole_length (m : Msg) : (wholeM m).length = 4 + (bodyM m).length := by unfold wholeM; rw [List.length_append, vecB_length]; simp only [List.length_cons, List.length_nil]; omega
theorem chain_le : ∀ l : List L, (∀ c ∈ l, c.length ≤ 2048) → (chainB l).length ≤ 2053 * l.length
  | [], _ => Nat.zero_le _
  | c :: l, h => by
    have h0 : c.length ≤ 2048 := h c (by simp)
    have := chain_le l (fun x hx => h x (by simp [hx]))
    simp only [chainB, List.length_append, vecB_length, List.length_cons, List.length_nil]; omega
theorem body_le {m : Msg} (h : formM m = true) (hr : m.rnd.length = 32) (hm : m.mark.length = 32) : (bodyM m).length ≤ 32768 := by
  have hf : fitM m = true := by simp only [formM, Bool.and_eq_true] at h; exact h.2
  have hk := kinds (form_kind h)
  obtain ⟨k, R, M, S, H, T, N, G, C, li, ag, ps, re⟩ := m
  simp only [fitM, sized, wide] at hf hk hr hm
  rcases hk with e | e | e | e | e | e | e | e <;> subst e
  · simp only [if_true, Bool.and_eq_true, decide_eq_true_eq, Bool.or_eq_true, Bool.not_eq_true'] at hf
    obtain ⟨⟨⟨_, hS⟩, hH⟩, hT⟩ := hf
    simp only [bodyM, clientB, sharesB, offeredB, abil, if_true, List.length_append, vecB_length, List.length_cons, List.length_nil, hr]
    have a : (if H = [] then [] else [0, 23] ++ vecB 2 H : L).length ≤ 69 := by
      split
      · simp
      · simp only [List.length_append, vecB_length, List.length_cons, List.length_nil]; rcases hH with e | e <;> omega
    have b : (if ps = true then [0, 45, 0, 2, 1, 1, 0, 41] ++ vecB 2 (vecB 2 (vecB 2 T ++ numB 4 ag.toNat) ++ ([0, 33, 32] ++ M)) else [] : L).length ≤ 2000 := by
      cases ps with
      | false => simp
      | true =>
        obtain ⟨⟨h1, h2⟩, _⟩ : (1 ≤ T.length ∧ T.length ≤ 1000) ∧ 0 ≤ ag ∧ ag ≤ 4294967295 := by simpa using hT
        simp only [if_true, List.length_append, vecB_length, numB_length, List.length_cons, List.length_nil, hm]; omega
    omega
  · simp only [if_true, Bool.and_eq_true, decide_eq_true_eq, Bool.or_eq_true, show ¬ ((2 : Int) = 1) by decide, if_false] at hf
    obtain ⟨⟨_, hS⟩, hH⟩ := hf
    simp only [bodyM, serverB, if_true, show ¬ ((2 : Int) = 1) by decide, if_false, List.length_append, vecB_length, List.length_cons, List.length_nil]
    have a : (if re = true then special else R : L).length = 32 := by cases re with | true => rfl | false => exact hr
    have b : (if re = true then [] else vecB 2 H : L).length ≤ 67 := by
      cases re with
      | true => simp
      | false => 
        have : H.length = 65 := by have := hH; simp at this; exact this.1
        simp [vecB_length, this]
    have c : (if ps = true then [0, 41, 0, 2, 0, 0] else [] : L).length ≤ 6 := by cases ps <;> simp
    omega
  · simp only [if_true, Bool.and_eq_true, decide_eq_true_eq, show ¬ ((4 : Int) = 1) by decide, show ¬ ((4 : Int) = 2) by decide, if_false] at hf
    simp only [bodyM, ticketB, if_true, show ¬ ((4 : Int) = 1) by decide, show ¬ ((4 : Int) = 2) by decide, if_false, List.length_append, vecB_length, numB_length, List.length_cons, List.length_nil]
    omega
  · exact (by decide : 2 ≤ 32768)
  · simp only [if_true, Bool.and_eq_true, decide_eq_true_eq, List.all_eq_true, show ¬ ((11 : Int) = 1) by decide, show ¬ ((11 : Int) = 2) by decide, show ¬ ((11 : Int) = 4) by decide, if_false] at hf
    have := chain_le C (fun c hc => (hf.2 c hc).2)
    simp only [bodyM, if_true, show ¬ ((11 : Int) = 1) by decide, show ¬ ((11 : Int) = 2) by decide, show ¬ ((11 : Int) = 4) by decide, show ¬ ((11 : Int) = 8) by decide, if_false, List.length_append, vecB_length, List.length_cons, List.length_nil]
    omega
  · exact (by decide : 11 ≤ 32768)
  · simp only [if_true, Bool.and_eq_true, decide_eq_true_eq, show ¬ ((15 : Int) = 1) by decide, show ¬ ((15 : Int) = 2) by decide, show ¬ ((15 : Int) = 4) by decide, show ¬ ((15 : Int) = 11) by decide, if_false] at hf
    simp only [bodyM, if_true, show ¬ ((15 : Int) = 1) by decide, show ¬ ((15 : Int) = 2) by decide, show ¬ ((15 : Int) = 4) by decide, show ¬ ((15 : Int) = 8) by decide, show ¬ ((15 : Int) = 11) by decide, show ¬ ((15 : Int) = 13) by decide, if_false, List.length_append, vecB_length, List.length_cons, List.length_nil]
    omega
  · simp only [bodyM, if_true, show ¬ ((20 : Int) = 1) by decide, show ¬ ((20 : Int) = 2) by decide, show ¬ ((20 : Int) = 4) by decide, show ¬ ((20 : Int) = 8) by decide, show ¬ ((20 : Int) = 11) by decide, show ¬ ((20 : Int) = 13) by decide, show ¬ ((20 : Int) = 15) by decide, if_false, hm]
    omega
theorem kind_byte {k : Int} (h : isKind k = true) : 0 ≤ k ∧ k < 256 := by
  rcases kinds h with e | e | e | e | e | e | e | e <;> subst e <;> decide

/-- a way of reading that finds what was written -/
def Finds (find : Int → L → Msg) : Prop := (∀ m, formM m = true → m.rnd.length = 32 → m.mark.length = 32 → find m.kind (bodyM m) = m) ∧ ∀ k b, (find k b).rnd.length = 32 ∧ (find k b).mark.length = 32
theorem getD_take {b : L} {n : Nat} (h : 0 < n) : (b.take n).getD 0 0 = b.getD 0 0 := by
  cases b with
  | nil => simp
  | cons x b => cases n with
    | zero => omega
    | succ n => rfl
theorem find_whole {find : Int → L → Msg} (hf : Finds find) {m : Msg} {b : L} {n : Nat} (h : formM m = true) (hr : m.rnd.length = 32) (hm : m.mark.length = 32) (e : wholeM m = b.take (4 + n)) : find (b.getD 0 0).toNat ((b.drop 4).take n) = m := by
  obtain ⟨h1, _, h3⟩ := whole_parts (kind_byte (form_kind h)) (by have := body_le h hr hm; omega) e
  rw [getD_take (by omega)] at h1
  have h4 : (b.take (4 + n)).drop 4 = (b.drop 4).take n := by rw [List.drop_take]; congr 1; omega
  rw [h1, ← h4, h3]
  exact hf.1 m h hr hm
theorem read_same {f g : Int → L → Msg} (hf : Finds f) (hg : Finds g) (b : L) : readBy f b = readBy g b := by
  unfold readBy
  split
  · rfl
  · dsimp only
    generalize getN ((b.drop 1).take 3) = n
    by_cases h1 : formM (f (b.getD 0 0).toNat ((b.drop 4).take n)) = true ∧ wholeM (f (b.getD 0 0).toNat ((b.drop 4).take n)) = b.take (4 + n)
    · have := find_whole hg h1.1 (hf.2 _ _).1 (hf.2 _ _).2 h1.2
      rw [this]
    · by_cases h2 : formM (g (b.getD 0 0).toNat ((b.drop 4).take n)) = true ∧ wholeM (g (b.getD 0 0).toNat ((b.drop 4).take n)) = b.take (4 + n)
      · have := find_whole hf h2.1 (hg.2 _ _).1 (hg.2 _ _).2 h2.2
        rw [this]
      · rw [if_neg h1, if_neg h2]
theorem head_whole {m : Msg} (h : formM m = true) (hr : m.rnd.length = 32) (hm : m.mark.length = 32) (y : L) : headE (wholeM m ++ y) = none ∧ getN (((wholeM m ++ y).drop 1).take 3) = (bodyM m).length := by
  have hb := body_le h hr hm
  have hl := whole_length m
  obtain ⟨h1, h2, _⟩ := whole_parts (kind_byte (form_kind h)) (by omega) (rfl : wholeM m = wholeM m)
  have e1 : (wholeM m ++ y).getD 0 0 = (wholeM m).getD 0 0 := by
    have : wholeM m = (wholeM m ++ y).take (wholeM m).length := List.take_left.symm
    rw [this, getD_take (by omega)]
    simp
  have e2 : ((wholeM m ++ y).drop 1).take 3 = ((wholeM m).drop 1).take 3 := by
    rw [List.drop_append_of_le_length (by omega), List.take_append_of_le_length (by rw [List.length_drop]; omega)]
  refine ⟨?_, by rw [e2, h2]⟩
  unfold headE
  rw [e1, e2, h1, h2, List.length_append, hl, if_neg (by rw [form_kind h]; simp), if_neg (by omega), if_neg (by omega), if_neg (by omega)]
theorem read_whole {f : Int → L → Msg} (hf : Finds f) {m : Msg} (h : formM m = true) (hr : m.rnd.length = 32) (hm : m.mark.length = 32) (y : L) : readBy f (wholeM m ++ y) = (m, (wholeM m).length, 0) := by
  obtain ⟨h1, h2⟩ := head_whole h hr hm y
  have ht : wholeM m = (wholeM m ++ y).take (4 + (bodyM m).length) := (take_app (whole_length m)).symm
  have := find_whole hf h hr hm ht
  unfold readBy
  rw [h1]
  dsimp only
  rw [h2, this, if_pos ⟨h, ht⟩, whole_length]
theorem read_cut {f : Int → L → Msg} {m : Msg} (h : formM m = true) (hr : m.rnd.length = 32) (hm : m.mark.length = 32) {k : Nat} (hk : k < (wholeM m).length) : readBy f ((wholeM m).take k) = (zeroM 0, 0, 3) := by
  have hb := body_le h hr hm
  have hl := whole_length m
  obtain ⟨h1, h2, _⟩ := whole_parts (kind_byte (form_kind h)) (by omega) (rfl : wholeM m = wholeM m)
  have : headE ((wholeM m).take k) = some 3 := by
    unfold headE
    rw [List.length_take, Nat.min_eq_left (by omega)]
    by_cases h0 : k = 0
    · subst h0; rfl
    · rw [getD_take (by omega), h1, if_neg (by rw [form_kind h]; simp)]
      by_cases h4 : k < 4
      · rw [if_pos h4]
      · have e2 : (((wholeM m).take k).drop 1).take 3 = ((wholeM m).drop 1).take 3 := by
          rw [List.drop_take, List.take_take]; congr 1; omega
        rw [if_neg h4, e2, h2, if_neg (by omega), if_pos (by omega)]
  unfold readBy
  rw [this]
theorem atB_32 (b : L) (f : Nat) : (atB b f 32).length = 32 := atB_length b f 32
theorem pad_32 (x : L) : (pad32 (x.take 32)).length = 32 := by unfold pad32; rw [List.length_append, List.length_replicate, List.length_take]; omega
theorem said_finds : Finds saidM := ⟨said_body, fun k b => by
  have z : zero32.length = 32 := rfl
  unfold saidM
  refine ⟨?_, ?_⟩ <;> repeat' split
  all_goals first
    | exact z
    | exact pad_32 _
    | (unfold saidClient cl3 cl4; split <;> unfold cl5 <;> split <;> first | exact pad_32 _ | exact z)
    | (unfold saidServer sv3; split <;> first | exact pad_32 _ | exact z)⟩
theorem guess_finds : Finds guessM := ⟨guess_body, fun k b => by
  have z : zero32.length = 32 := rfl
  unfold guessM
  refine ⟨?_, ?_⟩ <;> repeat' split
  all_goals first
    | exact z
    | exact atB_32 _ _
    | (unfold guessClient gPsk; split <;> first | exact atB_32 _ _ | exact z)
    | (unfold guessServer; split <;> first | exact atB_32 _ _ | exact z)⟩
end HelloMath
