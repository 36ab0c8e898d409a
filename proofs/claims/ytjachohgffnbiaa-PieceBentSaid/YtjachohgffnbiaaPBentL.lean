/-
  What a split tells of its pieces; three bytes that come in.
-/
import Derived.Test.YtjachohgffnbiaaPTakesW
import Derived.Test.YtjachohgffnbiaaPq
import Derived.Test.YtjachohgffnbiaaHz
import Derived.Laws.BitsAllLaws
namespace Go.Proofs.Ytjachohgffnbiaa
open Go.RowKit

theorem restE_cons {room : Nat} (h0 : 0 < room) : ∀ (k : Nat) (R : List UInt8), R.length = k → ∀ p ∈ restE room R, 0 < p.length := by
  intro k
  induction k using Nat.strongRecOn with
  | ind k ih =>
    intro R hR p hp
    by_cases h : room < R.length
    · rw [restE_more h0 h] at hp
      rcases List.mem_cons.1 hp with rfl | hp
      · simp
      · exact ih (k - room) (by omega) (R.drop room) (by rw [List.length_drop, hR]) p hp
    · rw [restE_last h] at hp
      simp at hp
      subst hp; simp
theorem split_good (L : List UInt8) (z : Nat) (h1 : 16 ≤ z) (h2 : z ≤ 4000) (h3 : L.length ≤ 32768) :
    (splitE L (z : Int)).2 = 0 ∧ 0 < (splitE L (z : Int)).1.length ∧ ∀ j, j < (splitE L (z : Int)).1.length → 0 < ((splitE L (z : Int)).1.getD j []).length ∧ ((splitE L (z : Int)).1.getD j []).length ≤ 4000 := by
  have hsp : splitE L (z : Int) = if L.length ≤ z - 1 then ([0 :: L], 0) else ((192 :: (be4 L.length ++ L.take (z - 5))) :: restE (z - 1) (L.drop (z - 5)), 0) := by
    unfold splitE; rw [if_neg (by omega), if_neg (by omega), Int.toNat_natCast]
  have hpos : ∀ p ∈ (splitE L (z : Int)).1, 0 < p.length := by
    intro p hp
    rw [hsp] at hp
    split at hp
    · simp at hp; subst hp; simp
    · rcases List.mem_cons.1 hp with rfl | hp
      · simp
      · exact restE_cons (by omega) _ _ rfl p hp
  refine ⟨by rw [hsp]; split <;> rfl, by rw [hsp]; split <;> simp, fun j hj => ?_⟩
  have hm : (splitE L (z : Int)).1.getD j [] ∈ (splitE L (z : Int)).1 := by
    rw [List.getD_eq_getElem?_getD, List.getElem?_eq_getElem hj]; exact List.getElem_mem hj
  exact ⟨hpos _ hm, Nat.le_trans (split_most hm) h2⟩
theorem getD_takes (rs : List (List UInt8)) (k j : Nat) (h : j < (rs.take k).length) : (rs.take k).getD j [] = rs.getD j [] := by
  rw [List.length_take] at h
  rw [List.getD_eq_getElem?_getD, List.getElem?_take, if_pos (by omega), ← List.getD_eq_getElem?_getD]
theorem getD_drops (rs : List (List UInt8)) (k j : Nat) : (rs.drop k).getD j [] = rs.getD (k + j) [] := by
  rw [List.getD_eq_getElem?_getD, List.getElem?_drop, ← List.getD_eq_getElem?_getD]
theorem most_of {rs qs : List (List UInt8)} (h : ∀ p ∈ qs, p ∈ rs) (hr : ∀ j, j < rs.length → 0 < (rs.getD j []).length ∧ (rs.getD j []).length ≤ 4000) : ∀ j, j < qs.length → (qs.getD j []).length ≤ 4000 := fun j hj => by
  have hm : qs.getD j [] ∈ qs := by
    rw [List.getD_eq_getElem?_getD, List.getElem?_eq_getElem hj]; exact List.getElem_mem hj
  obtain ⟨i, hi, e⟩ := List.getElem_of_mem (h _ hm)
  have := (hr i hi).2
  rw [List.getD_eq_getElem?_getD, List.getElem?_eq_getElem hi] at this
  rw [← e]; exact this
theorem ix_bh (n q : Nat) (hn : n < 500) (hq : q < 100) : ∃ z : Nat, (16 : Int) + (q : Int) = (z : Int) ∧ (16 ≤ z ∧ z ≤ 116) ∧ n < 1000000 ∧ n < 900000 ∧ wrap64 (z : Int) = (z : Int) ∧ IntKind.i64.wrap (z : Int) = (z : Int) := ⟨16 + q, by omega, by omega, by omega, by omega, by unfold wrap64; omega, by rw [IntKind.wrap_i64]; omega⟩
theorem ix_kw {k m : Nat} (h : k + 1 ≤ m) (hm : m ≤ 9223372036854775807) : wrap64 ((k : Int) + 1) = ((k + 1 : Nat) : Int) := by unfold wrap64; omega
theorem ix_meas {k m : Nat} (h : k + 1 ≤ m) (hm : m ≤ 9223372036854775807) : m - (intOf (.int .i64 (wrap64 ((k : Int) + 1)))).toNat < m - (intOf (.int .i64 (k : Int))).toNat := by
  rw [ix_kw h hm]; simp only [intOf]; omega
theorem ix_pos {ml : Nat} (h : 0 < ml) : ¬ (ml : Int) = 0 ∧ ((ml : Int) == 0) = false := by
  refine ⟨by omega, by simp; omega⟩
theorem ix_bent (k k1 ml cp : Nat) (h : k < ml) (hc : ml ≤ cp) (hk : k1 = k + 1) (hf : ml ≤ 50000) : (0 : Int) ≤ (k : Int) ∧ (k : Int) ≤ (cp : Int) ∧ (k : Int) + 1 = (k1 : Int) ∧ wrap64 (k1 : Int) = (k1 : Int) ∧ IntKind.i64.wrap (k1 : Int) = (k1 : Int) ∧ (k1 : Int) ≤ (ml : Int) ∧ (k : Int) ≤ (ml : Int) ∧ (k1 : Int) ≤ (cp : Int) ∧ ¬ cp = k := by
  refine ⟨by omega, by omega, by omega, by unfold wrap64; omega, by rw [IntKind.wrap_i64]; omega, by omega, by omega, by omega, by omega⟩
theorem ix_cut (cp k1 op : Nat) : ∃ o, Hid ((cp = k1 ∧ o = op) ∨ (¬ cp = k1 ∧ o = op + k1)) := by
  by_cases h : cp = k1
  · exact ⟨op, Lib.hid (.inl ⟨h, rfl⟩)⟩
  · exact ⟨op + k1, Lib.hid (.inr ⟨h, rfl⟩)⟩
theorem ix_tk {rs : List (List UInt8)} {ml k : Nat} (h : ml = rs.length) (hk : k < ml) : (rs.take k).length = k := by rw [List.length_take]; omega
theorem ix_tk2 {rs : List (List UInt8)} {ml k k1 : Nat} (h : ml = rs.length) (hk : k < ml) (h1 : k1 = k + 1) : (rs.take k1).length = k1 := by rw [List.length_take]; omega
theorem ix_dr {rs : List (List UInt8)} {ml k : Nat} (h : ml = rs.length) : (rs.drop k).length = ml - k := by rw [List.length_drop, h]
theorem ix_fa {ml k k1 : Nat} {rs : List (List UInt8)} (_h : ml = rs.length) (hf : ml ≤ 50000) (hk : k < ml) (_h1 : k1 = k + 1) : ([] : List (List UInt8)).length + k ≤ 1000000 := by simp; omega
theorem ix_fb {ml k k1 : Nat} {rs : List (List UInt8)} (_h : ml = rs.length) (hf : ml ≤ 50000) (hk : k < ml) (h1 : k1 = k + 1) : ([] : List (List UInt8)).length + k1 ≤ 1000000 := by simp; omega
theorem ix_fc {ml k k1 : Nat} {rs : List (List UInt8)} (_h : ml = rs.length) (hf : ml ≤ 50000) (_hk : k < ml) (_h1 : k1 = k + 1) : ([] ++ rs.take k).length + (ml - k1) ≤ 1000000 := by simp; omega
theorem ix_fd {ml k k1 : Nat} {rs : List (List UInt8)} (_h : ml = rs.length) (hf : ml ≤ 50000) (_hk : k < ml) (_h1 : k1 = k + 1) : ([] ++ rs.take k1).length + (ml - k) ≤ 1000000 := by simp; omega
theorem ix_off {ml k1 cp o op : Nat} {rs : List (List UInt8)} (h : (cp = k1 ∧ o = op) ∨ (¬ cp = k1 ∧ o = op + k1)) (hm : ml = rs.length) (hc : ml ≤ cp) : ∀ j, j < (rs.drop k1).length → o = op + k1 := fun j hj => by
  rw [List.length_drop] at hj
  rcases h with ⟨h1, _⟩ | ⟨_, h2⟩
  · omega
  · exact h2
theorem rows_take {W : World} {B gp op k : Nat} {rs : List (List UInt8)} {P : World → Prop} (h : ∀ W, P W → ∀ j, j < rs.length → ∃ Aj cj, W.cell? ⟨gp, op + j, none⟩ = some (.slice Aj (rs.getD j []).length cj) ∧ In W B Aj cj (rs.getD j [])) (hW : P W) :
    ∀ j, j < (rs.take k).length → ∃ Aj cj, W.cell? ⟨gp, op + j, none⟩ = some (.slice Aj ((rs.take k).getD j []).length cj) ∧ In W B Aj cj ((rs.take k).getD j []) := fun j hj => by
  rw [getD_takes rs k j hj]
  exact h W hW j (by rw [List.length_take] at hj; omega)
theorem rows_drop {W : World} {B gp op o k : Nat} {rs : List (List UInt8)} {P : World → Prop} (h : ∀ W, P W → ∀ j, j < rs.length → ∃ Aj cj, W.cell? ⟨gp, op + j, none⟩ = some (.slice Aj (rs.getD j []).length cj) ∧ In W B Aj cj (rs.getD j [])) (hW : P W) (ho : ∀ j, j < (rs.drop k).length → o = op + k) :
    ∀ j, j < (rs.drop k).length → ∃ Aj cj, W.cell? ⟨gp, o + j, none⟩ = some (.slice Aj ((rs.drop k).getD j []).length cj) ∧ In W B Aj cj ((rs.drop k).getD j []) := fun j hj => by
  rw [getD_drops, ho j hj, Nat.add_assoc]
  exact h W hW (k + j) (by rw [List.length_drop] at hj; omega)
theorem mem_cut (rs : List (List UInt8)) (a b : Nat) : ∀ p ∈ [] ++ rs.take a ++ rs.drop b, p ∈ rs := fun p hp => by
  rw [List.nil_append] at hp
  rcases List.mem_append.1 hp with h | h
  · exact List.mem_of_mem_take h
  · exact List.mem_of_mem_drop h
theorem rws_frozen {w : World} {base gp op n c : Nat} {rs : List (List UInt8)} (h : Rws w base (.slice (some ⟨gp, op, none⟩) n c) rs) : op = 0 ∧ base ≤ gp ∧ ∀ j, w.frozen? ⟨gp, j, none⟩ = false := by
  obtain ⟨cells, ho, _⟩ := h
  rcases ho.2 with ⟨e, _⟩ | ⟨g, cap, cur, e, hb, hg, _⟩
  · cases e
  · injection e with e1
    cases e1
    exact ⟨rfl, hb, fun j => Blk.frozen (show Blk w gp 23 cur.toList from hg) j⟩
theorem in_set_slice {w : World} {B c gt ot : Nat} {A X : Option Addr} {xs : List UInt8} {n cX : Nat} (h : In w B A c xs) (ht : w.cell? ⟨gt, ot, none⟩ = some (.slice X n cX)) (v : Value) : In (w.setCell ⟨gt, ot, none⟩ v) B A c xs :=
  ⟨h.1, h.2.1, fun h0 => by
    obtain ⟨gb, ob, e, hl, hby⟩ := h.2.2 h0
    refine ⟨gb, ob, e, hl, fun j hj => ?_⟩
    rw [World.cell?_setCell_other _ _ _ _ (fun e2 => by
      have := hby j hj
      rw [← e2, ht] at this
      cases this)]
    exact hby j hj⟩
theorem pin_set {w : World} {B gp op c k n cX cq : Nat} {rs : List (List UInt8)} {q : List UInt8} {X Aq : Option Addr} (h : PIn w B (some ⟨gp, op, none⟩) c rs) (hk : k < rs.length) (hX : w.cell? ⟨gp, op + k, none⟩ = some (.slice X n cX)) (hq : In w B Aq cq q) :
    PIn (w.setCell ⟨gp, op + k, none⟩ (.slice Aq q.length cq)) B (some ⟨gp, op, none⟩) c (rs.set k q) :=
  ⟨by rw [List.length_set]; exact h.1, h.2.1, fun _ => by
    obtain ⟨gp', op', e, hl, hrow⟩ := h.2.2 (Nat.lt_of_le_of_lt (Nat.zero_le _) hk)
    cases e
    refine ⟨gp, op, rfl, hl, fun j hj => ?_⟩
    rw [List.length_set] at hj
    by_cases hjk : j = k
    · subst hjk
      have hg : (rs.set j q).getD j [] = q := by rw [List.getD_eq_getElem?_getD, List.getElem?_set_self hj]; rfl
      rw [hg]
      exact ⟨Aq, cq, World.cell?_setCell_same _ _ _ hX, in_set_slice hq hX _⟩
    · obtain ⟨Aj, cj, h1, h2⟩ := hrow j hj
      have hg : (rs.set k q).getD j [] = rs.getD j [] := by rw [List.getD_eq_getElem?_getD, List.getElem?_set_ne (fun h => hjk h.symm), ← List.getD_eq_getElem?_getD]
      rw [hg]
      exact ⟨Aj, cj, by rw [World.cell?_setCell_other _ _ _ _ (fun e => by injection e; omega)]; exact h1, in_set_slice h2 hX _⟩⟩
theorem in_cut {w : World} {B gk ok o1 ck : Nat} {p : List UInt8} (h : In w B (some ⟨gk, ok, none⟩) ck p) (h0 : 0 < p.length) (ho : (ck = 1 ∧ o1 = ok) ∨ (¬ ck = 1 ∧ o1 = ok + 1)) : In w B (some ⟨gk, o1, none⟩) (ck - 1) (p.drop 1) := by
  have := in_drop h 1 h0
  rcases ho with ⟨h1, h2⟩ | ⟨h1, h2⟩
  · rw [if_pos h1] at this; rw [h2]; exact this
  · rw [if_neg h1] at this; rw [h2]; exact this
theorem most_set {rs : List (List UInt8)} {k : Nat} {q : List UInt8} (hr : ∀ j, j < rs.length → 0 < (rs.getD j []).length ∧ (rs.getD j []).length ≤ 4000) (hq : q.length ≤ 4000) : ∀ j, j < (rs.set k q).length → ((rs.set k q).getD j []).length ≤ 4000 := fun j hj => by
  rw [List.length_set] at hj
  by_cases hjk : j = k
  · subst hjk
    rw [List.getD_eq_getElem?_getD, List.getElem?_set_self hj]; exact hq
  · rw [List.getD_eq_getElem?_getD, List.getElem?_set_ne (fun h => hjk h.symm), ← List.getD_eq_getElem?_getD]; exact (hr j hj).2
theorem ix_bx {k ml cp pl ck : Nat} {p : List UInt8} (hk : k < ml) (hc : ml ≤ cp) (hpl : pl = p.length) (h0 : 0 < pl) (h4 : pl ≤ 4000) (hck : p.length ≤ ck) : (0 : Int) ≤ (k : Int) ∧ (k : Int) < (ml : Int) ∧ (1 : Int) ≤ (pl : Int) ∧ (pl : Int) ≤ (ck : Int) ∧ (1 : Int) ≤ (ck : Int) ∧ (p.drop 1).length = pl - 1 ∧ pl = 1 + (p.drop 1).length ∧ 1 + (p.drop 1).length ≤ 1099511627776 ∧ (ml : Int) ≤ (cp : Int) := by
  rw [List.length_drop]; omega
theorem bx_xor (a b : UInt8) : bits .xor .u8 (a.toNat : Int) (b.toNat : Int) = ((a ^^^ b).toNat : Int) := by
  rw [u8_xor_nat _ _ a.toNat_lt b.toNat_lt, UInt8.toNat_xor]
end Go.Proofs.Ytjachohgffnbiaa
