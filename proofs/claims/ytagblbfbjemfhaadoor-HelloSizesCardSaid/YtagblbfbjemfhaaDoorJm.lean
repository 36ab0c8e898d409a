/-
  Package hello's messages: what a message with another random or mark is.
-/
import Derived.Test.YtagblbfbjemfhaaDoorHG
namespace HelloMath

def altM (m : Msg) (r k : L) : Msg := { m with rnd := r, mark := k }
theorem alter_form {m : Msg} (hf : formM m = true) (x y : L) (c1 c2 : Bool) (h1 : c1 = ((m.kind != 1 && m.kind != 2) || m.retry)) (h2 : c2 = ((m.kind == 1 && !m.psk) || (m.kind != 1 && m.kind != 20))) :
    formM (altM m (if c1 then m.rnd else x) (if c2 then m.mark else y)) = true ∨ (m.kind = 2 ∧ (if c1 then m.rnd else x) = special) := by
  obtain ⟨k, R, M, S, H, T, N, G, C, li, ag, ps, re⟩ := m
  have hk := kinds (form_kind hf)
  dsimp only at hk h1 h2
  subst h1 h2
  unfold altM
  rcases hk with e | e | e | e | e | e | e | e <;> subst e
  · left
    cases ps <;> cases re <;> simp_all [formM, okM, okF, fitM]
  · cases re
    · by_cases hx : x = special
      · right
        simp [hx]
      · left
        cases ps <;> simp_all [formM, okM, okF, fitM]
    · left
      cases ps <;> simp_all [formM, okM, okF, fitM]
  all_goals
    left
    cases ps <;> cases re <;> simp_all [formM, okM, okF, fitM]
theorem alter_len {m : Msg} {r k : L} (hr : r.length = m.rnd.length) (hk : k.length = m.mark.length) : (wholeM (altM m r k)).length = (wholeM m).length := by
  have hb : (bodyM (altM m r k)).length = (bodyM m).length := by
    unfold bodyM altM
    dsimp only
    split
    · simp [clientB, sharesB, offeredB, vecB_length, hr]
      split <;> simp [vecB_length, hk]
    · split
      · simp [serverB, vecB_length]
        split <;> simp [hr]
      · split
        · simp [ticketB]
        · split
          · rfl
          · split
            · rfl
            · split
              · rfl
              · split
                · rfl
                · split
                  · exact hk
                  · rfl
  rw [whole_length, whole_length, hb]
theorem size_8 {m : Msg} (h : m.kind = 8) : (wholeM m).length = 6 := by rw [whole_length]; unfold bodyM; simp [h]
theorem size_13 {m : Msg} (h : m.kind = 13) : (wholeM m).length = 15 := by rw [whole_length]; unfold bodyM; simp [h]
theorem size_20 {m : Msg} (h : m.kind = 20) (hm : m.mark.length = 32) : (wholeM m).length = 36 := by rw [whole_length]; unfold bodyM; simp [h, hm]
theorem size_15 {m : Msg} (h : m.kind = 15) : (wholeM m).length = 8 + m.sig.length := by rw [whole_length]; unfold bodyM; simp [h, vecB_length]; omega
end HelloMath
