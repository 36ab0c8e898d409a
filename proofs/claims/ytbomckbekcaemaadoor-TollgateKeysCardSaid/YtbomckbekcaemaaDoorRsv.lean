/-
  What Opened tells; a sum of four parts.
-/
import Derived.Test.YtbomckbekcaemaaDoorRsu
namespace Go.Proofs.YtbomckbekcaemaaDoor
open Go.RowKit

/-- The sum that a reply bears. -/
def sumO (b M sec : List UInt8) : List UInt8 := md5 (b.take 4 ++ M ++ b.drop 20 ++ sec)
/-- What Opened tells. -/
def openedE (b M sec : List UInt8) : Pk × Nat :=
  if (readE b).2 = 0 then (if (readE b).1.1 = 1 then (zeroPk, 10) else if (readE b).1.2.2.1 = sumO b M sec then
    (if (unmarkE (readE b).1.1 (readE b).1.2.1 M (readE b).1.2.2.2 sec).2 = 0 then (((unmarkE (readE b).1.1 (readE b).1.2.1 M (readE b).1.2.2.2 sec).1.1, (unmarkE (readE b).1.1 (readE b).1.2.1 M (readE b).1.2.2.2 sec).1.2.1, sumO b M sec, (unmarkE (readE b).1.1 (readE b).1.2.1 M (readE b).1.2.2.2 sec).1.2.2.2), 0)
     else (zeroPk, (unmarkE (readE b).1.1 (readE b).1.2.1 M (readE b).1.2.2.2 sec).2)) else (zeroPk, 5)) else (zeroPk, 2)
theorem pkB_parts (code id : Int) (Q : List UInt8) (la : Attrs) (hQ : Q.length = 16) : ∃ h4, h4.length = 4 ∧ pkB code id Q la = h4 ++ Q ++ flatA la ∧ (∀ R, pkB code id R la = h4 ++ R ++ flatA la) ∧ (pkB code id Q la).take 4 = h4 ∧ (pkB code id Q la).drop 20 = flatA la :=
  ⟨[by8 code, by8 id, by8 ((20 + sizeA la) / 256 : Nat), by8 ((20 + sizeA la) % 256 : Nat)], rfl, rfl, fun _ => rfl, rfl, pkB_drop code id Q la hQ⟩
theorem opened_reply {code id : Int} {M S : List UInt8} {la : Attrs} {sec : List UInt8} (hM : M.length = 16) (hc : ¬ code = 1) (h : markE code id M la sec = (S, 0)) : openedE (replyE code id M la sec).1 M sec = ((code, id, md5 (S ++ sec), la), 0) := by
  have hr : (replyE code id M la sec).1 = S.take 4 ++ md5 (S ++ sec) ++ S.drop 20 := by unfold replyE; rw [if_neg hc, h]; rfl
  rw [hr]
  unfold markE at h
  split at h
  · injection h with _ e2; exact absurd e2 (by decide)
  · next hm =>
    split at h
    · next hp =>
      injection h with e1 _
      obtain ⟨mac, hmac⟩ : ∃ mac, mac = hmacQ sec (pkB code id M (la ++ [(80, zQ)])) := ⟨_, rfl⟩
      have hml : mac.length = 16 := by rw [hmac]; exact hmacQ_len _ _
      rw [← hmac] at e1
      have hp2 : pkOK code id (la ++ [(80, mac)]) = true := by rw [pkOK_mac code id la _ zQ hml rfl]; exact hp
      obtain ⟨D, hD⟩ : ∃ D, D = md5 (S ++ sec) := ⟨_, rfl⟩
      have hdl : D.length = 16 := by rw [hD]; exact md5_length _
      rw [← hD]
      obtain ⟨h4, h4l, h5, h6, h7, h8⟩ := pkB_parts code id M (la ++ [(80, mac)]) hM
      rw [e1] at h5 h7 h8
      have hB : S.take 4 ++ D ++ S.drop 20 = pkB code id D (la ++ [(80, mac)]) := by rw [h7, h8, h6 D]
      have hB4 : (pkB code id D (la ++ [(80, mac)])).take 4 = h4 := by rw [h6 D, List.append_assoc, List.take_left' h4l]
      have hB20 := pkB_drop code id D (la ++ [(80, mac)]) hdl
      have hs : sumO (pkB code id D (la ++ [(80, mac)])) M sec = D := by unfold sumO; rw [hB4, hB20, ← h5, ← hD]
      have hrd := read_write hdl hp2
      have hun : unmarkE code id M (la ++ [(80, mac)]) sec = ((code, id, M, la), 0) := by rw [hmac]; exact unmark_mark (by simpa using hm)
      rw [hB]
      unfold openedE
      rw [hrd]
      simp only [hs, hun, if_true, if_neg hc]
    · injection h with _ e2; exact absurd e2 (by decide)
theorem qof_four {W : World} {gp : Nat} {A1 A2 A3 A4 : Option Addr} {c1 c2 c3 c4 n1 n2 n3 n4 : Nat} {x1 x2 x3 x4 d : List UInt8} (i1 : In W W.heap.size A1 c1 x1) (l1 : x1.length = n1) (i2 : In W W.heap.size A2 c2 x2) (l2 : x2.length = n2) (i3 : In W W.heap.size A3 c3 x3) (l3 : x3.length = n3) (i4 : In W W.heap.size A4 c4 x4) (l4 : x4.length = n4)
    (h1 : W.cell? ⟨gp, 0, none⟩ = some (.slice A1 n1 c1)) (h2 : W.cell? ⟨gp, 1, none⟩ = some (.slice A2 n2 c2)) (h3 : W.cell? ⟨gp, 2, none⟩ = some (.slice A3 n3 c3)) (h4 : W.cell? ⟨gp, 3, none⟩ = some (.slice A4 n4 c4)) (hm : n1 + n2 + n3 + n4 ≤ 1000000) (hd : d = md5 (x1 ++ x2 ++ x3 ++ x4)) (ht : TabsQ W) :
    Calls Tryd.prog 52 #[.slice (some ⟨gp, 0, none⟩) 4 4] W fun e w' => e = .returned (.agg (d.map B8).toArray) ∧ Below W.heap.size W w' := by
  subst l1 l2 l3 l4 hd
  have hlt : gp < W.heap.size := by have := block_lt_of_cell h1; simpa using this
  have := qOf_any 4 (some ⟨gp, 0, none⟩) [x1, x2, x3, x4] W (by simp; omega) (by simp) (by decide) (fun g hg _ => ⟨gp, 0, rfl, by omega, fun j hj => by
    match j, hj with
    | 0, _ => exact ⟨A1, c1, h1, i1.1, i1.2.1, i1.src hg⟩
    | 1, _ => exact ⟨A2, c2, h2, i2.1, i2.2.1, i2.src hg⟩
    | 2, _ => exact ⟨A3, c3, h3, i3.1, i3.2.1, i3.src hg⟩
    | 3, _ => exact ⟨A4, c4, h4, i4.1, i4.2.1, i4.src hg⟩
    | j + 4, hj => simp at hj; omega⟩) ht
  simpa [List.append_assoc] using this
end Go.Proofs.YtbomckbekcaemaaDoor
