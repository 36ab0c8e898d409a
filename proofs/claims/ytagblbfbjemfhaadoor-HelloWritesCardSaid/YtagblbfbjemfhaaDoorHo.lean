/-
  Package hello's fits and inForm, put together.
-/
import Derived.Test.YtagblbfbjemfhaaDoorHn
import Derived.Test.YtagblbfbjemfhaaDoorHn2
import Derived.Test.YtagblbfbjemfhaaDoorHn3
namespace Go.Proofs.YtagblbfbjemfhaaDoor
open Go.RowKit
open HelloMath (numB numB_length vecB vecB_length Msg isKind sized wide kinds zero32 some8 okF okM fitM formM special form_kind)

set_option maxRecDepth 100000 in
set_option maxHeartbeats 400000 in
theorem fits_11 (m : Msg) (g : Nat) (w : World) (hM : MAt w g m) (hk : m.kind = 11) : Calls Tryd.prog 35 #[.pointer (some ⟨g, 0, none⟩)] w fun e w' => e = .returned (.bool (fitM m)) ∧ Below w.heap.size w w' := by
  have hc := hM.kind
  rw [hk] at hc
  obtain ⟨v, hc2, hv⟩ := hM.certs
  have e : fitM m = (decide (m.certs.length ≤ 5) && m.certs.all (fun c => sized c 1 2048)) := by simp [fitM, hk]
  rw [e]
  have HC := Lib.hid (areCerts_e v m.certs w hv)
  generalize (decide (m.certs.length ≤ 5) && m.certs.all (fun c => sized c 1 2048)) = b at *
  go_enter Tryd.func35, Tryd.ntmps35
  go_wp2_with (go_at_call 55; refine HC.out.mono ?_; rintro e w1 ⟨rfl, hb1⟩)
  go_ret
  exact ⟨rfl, hb1⟩
set_option maxRecDepth 100000 in
set_option maxHeartbeats 400000 in
theorem fits_15 (m : Msg) (g : Nat) (w : World) (hM : MAt w g m) (hk : m.kind = 15) : Calls Tryd.prog 35 #[.pointer (some ⟨g, 0, none⟩)] w fun e w' => e = .returned (.bool (fitM m)) ∧ Below w.heap.size w w' := by
  have hc := hM.kind
  rw [hk] at hc
  obtain ⟨v, hc2, hv⟩ := hM.sig
  have e : fitM m = sized m.sig 1 100 := by simp [fitM, hk]
  rw [e]
  have HC := Lib.hid (sized_e v m.sig 1 100 w hv)
  generalize sized m.sig 1 100 = b at *
  go_enter Tryd.func35, Tryd.ntmps35
  go_wp2_with (go_at_call 53; refine HC.out.mono ?_; rintro e w1 ⟨rfl, hb1⟩)
  go_ret
  exact ⟨rfl, hb1⟩
set_option maxRecDepth 100000 in
set_option maxHeartbeats 400000 in
theorem fits_8 (m : Msg) (g : Nat) (w : World) (hM : MAt w g m) (hk : m.kind = 8) : Calls Tryd.prog 35 #[.pointer (some ⟨g, 0, none⟩)] w fun e w' => e = .returned (.bool (fitM m)) ∧ Below w.heap.size w w' := by
  have hc := hM.kind
  rw [hk] at hc
  have e : fitM m = true := by simp [fitM, hk]
  rw [e]
  go_enter Tryd.func35, Tryd.ntmps35
  go_wp2
  go_ret
  exact ⟨rfl, Below.refl _ _⟩
set_option maxRecDepth 100000 in
set_option maxHeartbeats 400000 in
theorem fits_13 (m : Msg) (g : Nat) (w : World) (hM : MAt w g m) (hk : m.kind = 13) : Calls Tryd.prog 35 #[.pointer (some ⟨g, 0, none⟩)] w fun e w' => e = .returned (.bool (fitM m)) ∧ Below w.heap.size w w' := by
  have hc := hM.kind
  rw [hk] at hc
  have e : fitM m = true := by simp [fitM, hk]
  rw [e]
  go_enter Tryd.func35, Tryd.ntmps35
  go_wp2
  go_ret
  exact ⟨rfl, Below.refl _ _⟩
set_option maxRecDepth 100000 in
set_option maxHeartbeats 400000 in
theorem fits_20 (m : Msg) (g : Nat) (w : World) (hM : MAt w g m) (hk : m.kind = 20) : Calls Tryd.prog 35 #[.pointer (some ⟨g, 0, none⟩)] w fun e w' => e = .returned (.bool (fitM m)) ∧ Below w.heap.size w w' := by
  have hc := hM.kind
  rw [hk] at hc
  have e : fitM m = true := by simp [fitM, hk]
  rw [e]
  go_enter Tryd.func35, Tryd.ntmps35
  go_wp2
  go_ret
  exact ⟨rfl, Below.refl _ _⟩
theorem fits_1 (m : Msg) (g : Nat) (w : World) (hT : TabH w) (hM : MAt w g m) (hk : m.kind = 1) : Calls Tryd.prog 35 #[.pointer (some ⟨g, 0, none⟩)] w fun e w' => e = .returned (.bool (fitM m)) ∧ Below w.heap.size w w' := by
  have e : fitM m = (sized m.ses 0 32 && (decide (m.sha.length = 0) || decide (m.sha.length = 65)) && (!m.psk || (sized m.tic 1 1000 && wide m.age))) := by simp only [fitM, hk, if_true]
  rw [e]
  cases h1 : sized m.ses 0 32 with
  | false => exact fits1a m g w hT hM hk (Lib.hid h1)
  | true =>
    cases h2 : decide (m.sha.length = 0) with
    | true =>
      cases h4 : m.psk with
      | false => exact fits1sc m g w hT hM hk (Lib.hid h1) (Lib.hid h2) (Lib.hid h4)
      | true =>
        cases h5 : sized m.tic 1 1000 with
        | false => exact fits1sd m g w hT hM hk (Lib.hid h1) (Lib.hid h2) (Lib.hid h4) (Lib.hid h5)
        | true =>
          cases h6 : wide m.age with
          | false => exact fits1se m g w hT hM hk (Lib.hid h1) (Lib.hid h2) (Lib.hid h4) (Lib.hid h5) (Lib.hid h6)
          | true => exact fits1sf m g w hT hM hk (Lib.hid h1) (Lib.hid h2) (Lib.hid h4) (Lib.hid h5) (Lib.hid h6)
    | false =>
      cases h3 : decide (m.sha.length = 65) with
      | false => exact fits1b m g w hT hM hk (Lib.hid h1) (Lib.hid h2) (Lib.hid h3)
      | true =>
        cases h4 : m.psk with
        | false => exact fits1tc m g w hT hM hk (Lib.hid h1) (Lib.hid h2) (Lib.hid h3) (Lib.hid h4)
        | true =>
          cases h5 : sized m.tic 1 1000 with
          | false => exact fits1td m g w hT hM hk (Lib.hid h1) (Lib.hid h2) (Lib.hid h3) (Lib.hid h4) (Lib.hid h5)
          | true =>
            cases h6 : wide m.age with
            | false => exact fits1te m g w hT hM hk (Lib.hid h1) (Lib.hid h2) (Lib.hid h3) (Lib.hid h4) (Lib.hid h5) (Lib.hid h6)
            | true => exact fits1tf m g w hT hM hk (Lib.hid h1) (Lib.hid h2) (Lib.hid h3) (Lib.hid h4) (Lib.hid h5) (Lib.hid h6)
theorem fits_2 (m : Msg) (g : Nat) (w : World) (hT : TabH w) (hM : MAt w g m) (hk : m.kind = 2) : Calls Tryd.prog 35 #[.pointer (some ⟨g, 0, none⟩)] w fun e w' => e = .returned (.bool (fitM m)) ∧ Below w.heap.size w w' := by
  have e : fitM m = (sized m.ses 0 32 && (m.retry || (decide (m.sha.length = 65) && !(m.rnd == special)))) := by simp only [fitM, hk, if_true, show ¬ ((2 : Int) = 1) by decide, if_false]; rfl
  rw [e]
  cases h1 : sized m.ses 0 32 with
  | false => exact fits2a m g w hT hM hk (Lib.hid h1)
  | true =>
    cases h8 : m.retry with
    | true => exact fits2b m g w hT hM hk (Lib.hid h1) (Lib.hid h8)
    | false =>
      cases h3 : decide (m.sha.length = 65) with
      | false => exact fits2c m g w hT hM hk (Lib.hid h1) (Lib.hid h8) (Lib.hid h3)
      | true =>
        cases h7 : (m.rnd == special) with
        | true => exact fits2d m g w hT hM hk (Lib.hid h1) (Lib.hid h8) (Lib.hid h3) (Lib.hid h7)
        | false => exact fits2e m g w hT hM hk (Lib.hid h1) (Lib.hid h8) (Lib.hid h3) (Lib.hid h7)
theorem fits_4 (m : Msg) (g : Nat) (w : World) (hT : TabH w) (hM : MAt w g m) (hk : m.kind = 4) : Calls Tryd.prog 35 #[.pointer (some ⟨g, 0, none⟩)] w fun e w' => e = .returned (.bool (fitM m)) ∧ Below w.heap.size w w' := by
  have e : fitM m = (wide m.life && wide m.age && sized m.non 1 8 && sized m.tic 1 1000) := by simp only [fitM, hk, if_true, show ¬ ((4 : Int) = 1) by decide, show ¬ ((4 : Int) = 2) by decide, if_false]
  rw [e]
  cases h9 : wide m.life with
  | false => exact fits4a m g w hT hM hk (Lib.hid h9)
  | true =>
    cases h6 : wide m.age with
    | false => exact fits4b m g w hT hM hk (Lib.hid h9) (Lib.hid h6)
    | true =>
      cases h10 : sized m.non 1 8 with
      | false => exact fits4c m g w hT hM hk (Lib.hid h9) (Lib.hid h6) (Lib.hid h10)
      | true =>
        cases h5 : sized m.tic 1 1000 with
        | false => exact fits4d m g w hT hM hk (Lib.hid h9) (Lib.hid h6) (Lib.hid h10) (Lib.hid h5)
        | true => exact fits4e m g w hT hM hk (Lib.hid h9) (Lib.hid h6) (Lib.hid h10) (Lib.hid h5)
theorem fits_e (m : Msg) (g : Nat) (w : World) (hT : TabH w) (hM : MAt w g m) (hk : isKind m.kind = true) : Calls Tryd.prog 35 #[.pointer (some ⟨g, 0, none⟩)] w fun e w' => e = .returned (.bool (fitM m)) ∧ Below w.heap.size w w' := by
  rcases kinds hk with h | h | h | h | h | h | h | h
  · exact fits_1 m g w hT hM h
  · exact fits_2 m g w hT hM h
  · exact fits_4 m g w hT hM h
  · exact fits_8 m g w hM h
  · exact fits_11 m g w hM h
  · exact fits_13 m g w hM h
  · exact fits_15 m g w hM h
  · exact fits_20 m g w hM h
/-- what is named, and that nothing else is there -/
theorem named_e (m : Msg) (g : Nat) (hk : isKind m.kind = true) : ∃ N : Int, (bits .andNot .i64 ((fillM m : Nat) : Int) N == 0) = okM m ∧ ∀ w, MAt w g m → Calls Tryd.prog 34 #[.pointer (some ⟨g, 0, none⟩)] w fun e w' => e = .returned (.int .i64 N) ∧ Below w.heap.size w w' := by
  rcases kinds hk with h | h | h | h | h | h | h | h
  · cases hp : m.psk with
    | true => exact ⟨1567, by unfold fillM okM; rw [h, hp]; exact left_1t _ _ _ _ _ _ _ _ _ _ _, fun w hM => named_1t m g w hM h hp⟩
    | false => exact ⟨13, by unfold fillM okM; rw [h, hp]; exact left_1f _ _ _ _ _ _ _ _ _ _ _, fun w hM => named_1f m g w hM h hp⟩
  · cases hp : m.retry with
    | true => exact ⟨2052, by unfold fillM okM; rw [h, hp]; exact left_2t _ _ _ _ _ _ _ _ _ _ _, fun w hM => named_2t m g w hM h hp⟩
    | false => exact ⟨1037, by unfold fillM okM; rw [h, hp]; exact left_2f _ _ _ _ _ _ _ _ _ _ _, fun w hM => named_2f m g w hM h hp⟩
  · exact ⟨816, by unfold fillM okM; rw [h]; exact left_4 _ _ _ _ _ _ _ _ _ _ _ _, fun w hM => named_4 m g w hM h⟩
  · exact ⟨0, by unfold fillM okM; rw [h]; exact left_8 _ _ _ _ _ _ _ _ _ _ _ _, fun w hM => named_8 m g w hM h⟩
  · exact ⟨128, by unfold fillM okM; rw [h]; exact left_11 _ _ _ _ _ _ _ _ _ _ _ _, fun w hM => named_11 m g w hM h⟩
  · exact ⟨0, by unfold fillM okM; rw [h]; exact left_13 _ _ _ _ _ _ _ _ _ _ _ _, fun w hM => named_13 m g w hM h⟩
  · exact ⟨64, by unfold fillM okM; rw [h]; exact left_15 _ _ _ _ _ _ _ _ _ _ _ _, fun w hM => named_15 m g w hM h⟩
  · exact ⟨2, by unfold fillM okM; rw [h]; exact left_20 _ _ _ _ _ _ _ _ _ _ _ _, fun w hM => named_20 m g w hM h⟩
theorem form_no {m : Msg} (h : isKind m.kind = false) : formM m = false := by
  cases hf : formM m with
  | false => rfl
  | true => rw [form_kind hf] at h; cases h
set_option maxRecDepth 100000 in
set_option maxHeartbeats 400000 in
theorem inForm_e (m : Msg) (g : Nat) (w : World) (hT : TabH w) (hM : MAt w g m) : Calls Tryd.prog 22 #[.pointer (some ⟨g, 0, none⟩)] w fun e w' => e = .returned (.bool (formM m)) ∧ Below w.heap.size w w' := by
  have hc := hM.kind
  have HM := Lib.hid hM
  have HT := Lib.hid hT
  cases hk : isKind m.kind with
  | false =>
    rw [form_no hk]
    have HK := Lib.hid hk
    clear hM hT hk
    go_enter Tryd.func22, Tryd.ntmps22
    go_wp2_with (go_at_call 32; refine (isKind_e _ _).mono ?_; rintro e w1 ⟨rfl, hb1⟩; rw [HK.out])
    go_ret
    exact ⟨rfl, hb1⟩
  | true =>
    have HK := Lib.hid hk
    obtain ⟨N, hN, hcN⟩ := named_e m g hk
    have HCN := Lib.hid hcN
    obtain ⟨F, hF⟩ : ∃ F : Nat, fillM m = F := ⟨_, rfl⟩
    rw [hF] at hN
    have HF := Lib.hid hF
    cases ho : okM m with
    | false =>
      rw [ho] at hN
      have HN := Lib.hid hN
      have e : formM m = false := by rw [formM, ho]; rfl
      rw [e]
      clear hM hT hk hcN hF ho e
      go_enter Tryd.func22, Tryd.ntmps22
      go_wp2_with (first
        | (go_at_call 32; refine (isKind_e _ _).mono ?_; rintro e w1 ⟨rfl, hb1⟩; rw [HK.out])
        | (go_at_call 33; refine (filled_e m g _ (HM.out.below hb1)).mono ?_; rintro e w2 ⟨rfl, hb2⟩; rw [HF.out]; have hb12 := hb1.trans (hb2.mono hb1.size))
        | (go_at_call 34; refine (HCN.out _ (HM.out.below hb12)).mono ?_; rintro e w3 ⟨rfl, hb3⟩; have hb13 := hb12.trans (hb3.mono hb12.size)))
      go_ret
      exact ⟨rfl, hb13⟩
    | true =>
      rw [ho] at hN
      have HN := Lib.hid hN
      have e : formM m = fitM m := by rw [formM, ho]; rfl
      rw [e]
      obtain ⟨b, hb⟩ : ∃ b, fitM m = b := ⟨_, rfl⟩
      rw [hb]
      have HB := Lib.hid hb
      clear hM hT hk hcN hF ho e hb
      go_enter Tryd.func22, Tryd.ntmps22
      go_wp2_with (first
        | (go_at_call 32; refine (isKind_e _ _).mono ?_; rintro e w1 ⟨rfl, hb1⟩; rw [HK.out])
        | (go_at_call 33; refine (filled_e m g _ (HM.out.below hb1)).mono ?_; rintro e w2 ⟨rfl, hb2⟩; rw [HF.out]; have hb12 := hb1.trans (hb2.mono hb1.size))
        | (go_at_call 34; refine (HCN.out _ (HM.out.below hb12)).mono ?_; rintro e w3 ⟨rfl, hb3⟩; have hb13 := hb12.trans (hb3.mono hb12.size))
        | (go_at_call 35; refine (fits_e m g _ (HT.out.below hb13) (HM.out.below hb13) HK.out).mono ?_; rintro e w4 ⟨rfl, hb4⟩; rw [HB.out]; have hb14 := hb13.trans (hb4.mono hb13.size)))
      go_ret
      exact ⟨rfl, hb14⟩
end Go.Proofs.YtagblbfbjemfhaaDoor
