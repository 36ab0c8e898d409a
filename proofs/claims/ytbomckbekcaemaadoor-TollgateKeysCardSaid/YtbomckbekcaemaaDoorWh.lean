/-
  Joined: QBlk, QOut, QRefSum.
-/
import Derived.Test.YtbomckbekcaemaaDoorWg
import Derived.Test.YtbomckbekcaemaaDoorWc
import Derived.Test.YtbomckbekcaemaaDoorWa
import Derived.Test.YtbomckbekcaemaaDoorWf
import Derived.Test.YtbomckbekcaemaaDoorWb
import Derived.StillTailTactics
import Derived.BigRegion
import Derived.IntWalk
import Derived.Test.YtbomckbekcaemaaDoorWe
namespace Go.Proofs.YtbomckbekcaemaaDoor
section
open Go.RowKit Go.BigFrame
theorem grown_then_belowQ {a b c : World} {r : Option Nat} {D : Nat} (h : a.grownBy b r) (k : Below D b c) (hD : a.heap.size ≤ D) : a.grownBy c r :=
  ⟨k.os.trans h.os, k.tape.trans h.tape, k.output.trans h.output, Nat.le_trans h.size k.size, fun i hi hn => (k.block i (by omega)).trans (h.block i hi hn)⟩
def Qd.words (s : Qd) : List UInt32 := [s.a, s.b, s.c, s.d]
theorem valsQ (s : Qd) : s.vals = s.words.map U32 := rfl
/-- Block number b of a text. -/
def blkQ (T : List UInt8) (b : Nat) : List UInt8 := (T.drop (64 * b)).take 64
theorem foldQ_succ (n : Nat) : ∀ (s : Qd) (m : List UInt8), foldQ (n + 1) s m = compQ (foldQ n s m) (blkQ m n) := by
  induction n with
  | zero => intro s m; simp [foldQ, blkQ]
  | succ n ih =>
    intro s m
    show foldQ (n + 1) (compQ s (m.take 64)) (m.drop 64) = compQ (foldQ n (compQ s (m.take 64)) (m.drop 64)) (blkQ m (n + 1))
    rw [ih]
    unfold blkQ
    rw [List.drop_drop, show 64 * (n + 1) = 64 + 64 * n by omega]
theorem Bytes.blkQ {w : World} {g : Nat} {T : List UInt8} (h : Bytes w g 0 T) (b p i : Nat) (hp : p = 64 * b) (hi : i < 64) (hl : p + 64 ≤ T.length) : w.cell? ⟨g, p + i, none⟩ = some (.int .u8 ((blkQ T b).getD i 0).toNat) := by
  have := h (p + i) (by omega)
  rw [Nat.zero_add] at this
  rw [this]
  unfold Proofs.YtbomckbekcaemaaDoor.blkQ
  subst hp
  simp [List.getD_eq_getElem?_getD, hi, List.getElem?_drop]
/-- Words added to words, i of them. -/
def addTo (hs qs : List UInt32) : Nat → List UInt32
  | 0 => hs
  | i + 1 => (addTo hs qs i).set i (hs.getD i 0 + qs.getD i 0)
theorem addTo_length (hs qs : List UInt32) (i : Nat) : (addTo hs qs i).length = hs.length := by
  induction i with
  | zero => rfl
  | succ i ih => simp [addTo, ih]
theorem addTo_ge (hs qs : List UInt32) (i : Nat) : ∀ j, i ≤ j → (addTo hs qs i).getD j 0 = hs.getD j 0 := by
  induction i with
  | zero => intro j _; rfl
  | succ i ih =>
    intro j hj
    have := ih j (by omega)
    rw [addTo, List.getD_eq_getElem?_getD, List.getElem?_set_ne (by omega), ← List.getD_eq_getElem?_getD, this]
theorem addTo_all (s t : Qd) : addTo s.words t.words 4 = (addQ s t).words := by
  simp [addTo, Qd.words, addQ]

noncomputable def addLoopQCode : Code := ((Tryd.f53.body.bind (loopQ 34)).getD .skip)
set_option maxRecDepth 1000000 in
set_option maxHeartbeats 4000000 in
theorem addLoopQ {t0 t1 t2 t3 t4 t5 t6 t8 t10 t11 t12 t13 t14 t15 t17 t18 t19 t20 t21 t22 t23 t24 t25 t26 t27 t28 t29 t30 t31 t32 t33 t34 t35 t36 t37 t38 t39 t40 t41 t42 t43 t44 t45 t46 t47 t48 t49 t50 t51 t52 t53 t54 t55 t56 t57 t58 t59 t60 t61 t62 t63 t64 t65 t66 t67 t68 t69 t70 t71 t72 t73 t74 t75 t76 t77 t78 t79 t80 t81 t82 t83 t84 t85 t86 t87 t88 t89 t90 t91 t92 t93 t94 t95 t96 t97 t98 t99 t100 t101 t102 t103 t104 t105 t106 t107 t108 t109 t110 t111 t112 t113 t114 t115 t116 t117 t118 t119 t120 t121 t122 t123 t124 t125 t126 t127 t128 t129 t130 t131 t132 t133 t134 t135 t136 t137 t138 t139 t140 t141 t142 t143 t144 t145 t146 t147 t148 t149 t150 t151 t152 t153 t154 t155 t156 t157 t158 t159 t160 t161 t162 t163 t164 t165 t166 t167 t168 t169 t170 t171 t172 t173 t174 t175 t176 t177 t178 t179 t180 t181 t182 t183 t184 t185 t186 t187 t188 t189 t190 t191 t192 t193 t194 t195 t196 t197 t198 t199 t200 t201 t202 t203 t204 t205 t206 t207 t208 t209 t210 t211 t212 t213 t214 t215 t216 t217 t218 t219 t220 t221 t222 t223 t224 t225 : Value} (g g' : Nat) (s q : Qd) (ws : World) (Q : Exit → Act → World → Prop) (hne : g' ≠ g) (hs : Blk ws g 120 s.vals) (hq : Blk ws g' 120 q.vals)
    (h : ∀ (wz : World) (u16 u185 u186 u187 u188 u189 u190 u191 u192 u193 u194 u195 u196 u197 : Value), Blk wz g 120 (addQ s q).vals → ws.grownBy wz (some g) → Q (.exit 9) ⟨(t0 :: t1 :: t2 :: t3 :: t4 :: t5 :: t6 :: .pointer (some ⟨g, 0, none⟩) :: t8 :: .pointer (some ⟨g', 0, none⟩) :: t10 :: t11 :: t12 :: t13 :: t14 :: t15 :: u16 :: t17 :: t18 :: t19 :: t20 :: t21 :: t22 :: t23 :: t24 :: t25 :: t26 :: t27 :: t28 :: t29 :: t30 :: t31 :: t32 :: t33 :: t34 :: t35 :: t36 :: t37 :: t38 :: t39 :: t40 :: t41 :: t42 :: t43 :: t44 :: t45 :: t46 :: t47 :: t48 :: t49 :: t50 :: t51 :: t52 :: t53 :: t54 :: t55 :: t56 :: t57 :: t58 :: t59 :: t60 :: t61 :: t62 :: t63 :: t64 :: t65 :: t66 :: t67 :: t68 :: t69 :: t70 :: t71 :: t72 :: t73 :: t74 :: t75 :: t76 :: t77 :: t78 :: t79 :: t80 :: t81 :: t82 :: t83 :: t84 :: t85 :: t86 :: t87 :: t88 :: t89 :: t90 :: t91 :: t92 :: t93 :: t94 :: t95 :: t96 :: t97 :: t98 :: t99 :: t100 :: t101 :: t102 :: t103 :: t104 :: t105 :: t106 :: t107 :: t108 :: t109 :: t110 :: t111 :: t112 :: t113 :: t114 :: t115 :: t116 :: t117 :: t118 :: t119 :: t120 :: t121 :: t122 :: t123 :: t124 :: t125 :: t126 :: t127 :: t128 :: t129 :: t130 :: t131 :: t132 :: t133 :: t134 :: t135 :: t136 :: t137 :: t138 :: t139 :: t140 :: t141 :: t142 :: t143 :: t144 :: t145 :: t146 :: t147 :: t148 :: t149 :: t150 :: t151 :: t152 :: t153 :: t154 :: t155 :: t156 :: t157 :: t158 :: t159 :: t160 :: t161 :: t162 :: t163 :: t164 :: t165 :: t166 :: t167 :: t168 :: t169 :: t170 :: t171 :: t172 :: t173 :: t174 :: t175 :: t176 :: t177 :: t178 :: t179 :: t180 :: t181 :: t182 :: t183 :: t184 :: u185 :: u186 :: u187 :: u188 :: u189 :: u190 :: u191 :: u192 :: u193 :: u194 :: u195 :: u196 :: u197 :: t198 :: t199 :: t200 :: t201 :: t202 :: t203 :: t204 :: t205 :: t206 :: t207 :: t208 :: t209 :: t210 :: t211 :: t212 :: t213 :: t214 :: t215 :: t216 :: t217 :: t218 :: t219 :: t220 :: t221 :: t222 :: t223 :: t224 :: t225 :: []).toArray, []⟩ wz) :
    addLoopQCode.wp Tryd.prog Q ⟨(t0 :: t1 :: t2 :: t3 :: t4 :: t5 :: t6 :: .pointer (some ⟨g, 0, none⟩) :: t8 :: .pointer (some ⟨g', 0, none⟩) :: t10 :: t11 :: t12 :: t13 :: t14 :: t15 :: .int .i64 0 :: t17 :: t18 :: t19 :: t20 :: t21 :: t22 :: t23 :: t24 :: t25 :: t26 :: t27 :: t28 :: t29 :: t30 :: t31 :: t32 :: t33 :: t34 :: t35 :: t36 :: t37 :: t38 :: t39 :: t40 :: t41 :: t42 :: t43 :: t44 :: t45 :: t46 :: t47 :: t48 :: t49 :: t50 :: t51 :: t52 :: t53 :: t54 :: t55 :: t56 :: t57 :: t58 :: t59 :: t60 :: t61 :: t62 :: t63 :: t64 :: t65 :: t66 :: t67 :: t68 :: t69 :: t70 :: t71 :: t72 :: t73 :: t74 :: t75 :: t76 :: t77 :: t78 :: t79 :: t80 :: t81 :: t82 :: t83 :: t84 :: t85 :: t86 :: t87 :: t88 :: t89 :: t90 :: t91 :: t92 :: t93 :: t94 :: t95 :: t96 :: t97 :: t98 :: t99 :: t100 :: t101 :: t102 :: t103 :: t104 :: t105 :: t106 :: t107 :: t108 :: t109 :: t110 :: t111 :: t112 :: t113 :: t114 :: t115 :: t116 :: t117 :: t118 :: t119 :: t120 :: t121 :: t122 :: t123 :: t124 :: t125 :: t126 :: t127 :: t128 :: t129 :: t130 :: t131 :: t132 :: t133 :: t134 :: t135 :: t136 :: t137 :: t138 :: t139 :: t140 :: t141 :: t142 :: t143 :: t144 :: t145 :: t146 :: t147 :: t148 :: t149 :: t150 :: t151 :: t152 :: t153 :: t154 :: t155 :: t156 :: t157 :: t158 :: t159 :: t160 :: t161 :: t162 :: t163 :: t164 :: t165 :: t166 :: t167 :: t168 :: t169 :: t170 :: t171 :: t172 :: t173 :: t174 :: t175 :: t176 :: t177 :: t178 :: t179 :: t180 :: t181 :: t182 :: t183 :: t184 :: t185 :: t186 :: t187 :: t188 :: t189 :: t190 :: t191 :: t192 :: t193 :: t194 :: t195 :: t196 :: t197 :: t198 :: t199 :: t200 :: t201 :: t202 :: t203 :: t204 :: t205 :: t206 :: t207 :: t208 :: t209 :: t210 :: t211 :: t212 :: t213 :: t214 :: t215 :: t216 :: t217 :: t218 :: t219 :: t220 :: t221 :: t222 :: t223 :: t224 :: t225 :: []).toArray, []⟩ ws := by
  conv => arg 2; whnf
  rw [valsQ] at hs hq
  go_loopw [16] (fun i w6 => ∃ k : Nat, k ≤ 4 ∧ i = .int .i64 (k : Int) ∧ Blk w6 g 120 ((addTo s.words q.words k).map U32) ∧ ws.grownBy w6 (some g)) (fun i _ => 4 - (intOf i).toNat)
  case atStart => exact ⟨0, by omega, rfl, hs, grown_refl _ _⟩
  case round =>
    clear hs
    obtain ⟨k, hk, rfl, hs, hg⟩ := hrel
    by_cases hlt : k < 4
    · have hd : decide ((k : Int) < 4) = true := by simp; omega
      have hsl : (addTo s.words q.words k).length = 4 := (addTo_length _ _ _).trans rfl
      have hgl := hs.lt
      have hqr := hq.grown hg (by simpa using hne)
      have hql := hqr.lt
      obtain ⟨x, hx⟩ : ∃ x, x = s.words.getD k 0 := ⟨_, rfl⟩
      obtain ⟨y, hy⟩ : ∃ y, y = q.words.getD k 0 := ⟨_, rfl⟩
      obtain ⟨z, hz⟩ : ∃ z, z = x + y := ⟨_, rfl⟩
      have q1 : ((x.toNat : Int) + (y.toNat : Int)) % 4294967296 = (z.toNat : Int) := by rw [hz]; exact w_add _ _
      have q1' : IntKind.u32.wrap ((x.toNat : Int) + (y.toNat : Int)) = (z.toNat : Int) := by rw [IntKind.wrap_u32]; exact q1
      have hX := fun (V : World) (h : Below wr.heap.size wr V) => (show V.cell? ⟨g, k, none⟩ = some (.int .u32 x.toNat) ∧ V.cell? ⟨g', k, none⟩ = some (.int .u32 y.toNat) from by
        have c0 := (hs.below h hgl).at32 k (by omega)
        rw [addTo_ge s.words q.words k k (Nat.le_refl _), ← hx] at c0
        have c1 := (hqr.below h hql).at32 k (by show k < 4; omega)
        rw [← hy] at c1
        exact ⟨c0, c1⟩)
      have HX := Lib.hid hx
      have HY := Lib.hid hy
      have HZ := Lib.hid hz
      have k0 : (0 : Int) ≤ (k : Int) := by omega
      have k1 : (k : Int) < 4 := by omega
      clear hsl hx hy hz
      go_wp2
      apply wp_region_once_tail (m := 9) (Z := []) (D := [[], [], [1], [1, 2], [], [4], [4, 5], [1, 2, 3, 4, 5, 6], [0, 1, 2, 3, 4, 5, 6, 7], [0, 1, 2, 3, 4, 5, 6, 7, 8]]) (J := [[], [], [1], [2], [], [4], [5], [3, 6], [0]]) (Je := [7, 8]) (Rs := [Is _, Is _, Is _, Is _, Is _, Is _, Is _, Is _, Is _])
      · kernel_rfl
      · kernel_rfl
      · kernel_rfl
      · kernel_rfl
      · kernel_rfl
      · kernel_rfl
      · kernel_rfl
      · exact fun h => absurd rfl h
      · intro u
        simp only [List.take_succ_cons, List.take_zero, List.map_cons, List.map_nil, fillU, List.setIfInBounds_toArray, List.set_cons_zero, List.set_cons_succ, Nat.zero_add, Nat.reduceAdd]
        exact rfl
      · simp only [List.take_succ_cons, List.take_zero]
        refine ⟨fun u W hb hd K hK => ?_, ?_⟩
        · clear hd
          go_simp
          apply hK
          · simp only [Act.put, List.setIfInBounds_toArray, List.set_cons_zero, List.set_cons_succ]
            exact rfl
          · exact Below.refl _ _
          · exact IsOut
        refine ⟨fun u W hb hd K hK => ?_, ?_⟩
        · clear hd
          go_simp
          apply hK
          · simp only [Act.put, List.setIfInBounds_toArray, List.set_cons_zero, List.set_cons_succ]
            exact rfl
          · exact Below.refl _ _
          · exact IsOut
        refine ⟨fun u W hb hd K hK => ?_, ?_⟩
        · simp only [Facts, nthR, Is, and_true] at hd
          simp only [hd] at hK ⊢
          clear hd
          go_simp
          apply hK
          · simp only [Act.put, List.setIfInBounds_toArray, List.set_cons_zero, List.set_cons_succ]
            exact rfl
          · exact Below.refl _ _
          · exact IsOut
        refine ⟨fun u W hb hd K hK => ?_, ?_⟩
        · simp only [Facts, nthR, Is, and_true] at hd
          simp only [hd] at hK ⊢
          clear hd
          go_simp
          apply hK
          · simp only [Act.put, List.setIfInBounds_toArray, List.set_cons_zero, List.set_cons_succ]
            exact rfl
          · exact Below.refl _ _
          · exact IsOut
        refine ⟨fun u W hb hd K hK => ?_, ?_⟩
        · clear hd
          go_simp
          apply hK
          · simp only [Act.put, List.setIfInBounds_toArray, List.set_cons_zero, List.set_cons_succ]
            exact rfl
          · exact Below.refl _ _
          · exact IsOut
        refine ⟨fun u W hb hd K hK => ?_, ?_⟩
        · simp only [Facts, nthR, Is, and_true] at hd
          simp only [hd] at hK ⊢
          clear hd
          go_simp
          apply hK
          · simp only [Act.put, List.setIfInBounds_toArray, List.set_cons_zero, List.set_cons_succ]
            exact rfl
          · exact Below.refl _ _
          · exact IsOut
        refine ⟨fun u W hb hd K hK => ?_, ?_⟩
        · simp only [Facts, nthR, Is, and_true] at hd
          simp only [hd] at hK ⊢
          clear hd
          go_simp
          apply hK
          · simp only [Act.put, List.setIfInBounds_toArray, List.set_cons_zero, List.set_cons_succ]
            exact rfl
          · exact Below.refl _ _
          · exact IsOut
        refine ⟨fun u W hb hd K hK => ?_, ?_⟩
        · simp only [Facts, nthR, Is, and_true] at hd
          simp only [hd] at hK ⊢
          clear hd
          go_simp
          apply hK
          · simp only [Act.put, List.setIfInBounds_toArray, List.set_cons_zero, List.set_cons_succ]
            exact rfl
          · exact Below.refl _ _
          · exact IsOut
        refine ⟨fun u W hb hd K hK => ?_, ?_⟩
        · simp only [Facts, nthR, Is, and_true] at hd
          simp only [hd] at hK ⊢
          clear hd
          go_simp
          apply hK
          · simp only [Act.put, List.setIfInBounds_toArray, List.set_cons_zero, List.set_cons_succ]
            exact rfl
          · exact Below.refl _ _
          · exact IsOut
        exact trivial
      · skip
        exact trivial
      · exact (.is (.is (.is (.is (.is (.is (.is (.is (.is .nil)))))))))
      · intro u W hb36 hd
        simp only [List.drop_succ_cons, List.drop_zero]
        simp only [Facts, nthR, Is, and_true] at hd
        simp only [hd]
        clear hd
        replace hs := hs.below hb36 hgl
        replace hg := grown_trans hg (grown_of_below hb36 (some g))
        have cf := hs.frozen k
        have cw := hs.at32 k (by rw [addTo_length]; exact hlt)
        clear hX hb36 q1 q1' hgl hql
        go_wp2
        go_roundw
        case rel =>
          refine ⟨k + 1, by omega, by go_num, ?_, grown_setCell hg (.inl rfl) _⟩
          rw [addTo, ← HX.out, ← HY.out, ← HZ.out, ← map_set32]
          exact hs.set_ k _
        case measure => simp [intOf]; omega
    · have hd : decide ((k : Int) < 4) = false := by simp; omega
      obtain rfl : k = 4 := by omega
      rw [addTo_all] at hs
      go_wp2
      exact h _ _ _ _ _ _ _ _ _ _ _ _ _ _ _ hs hg

noncomputable def blockLoopQCode : Code := ((Tryd.f53.body.bind (loopQ 12)).getD .skip)
set_option maxRecDepth 1000000 in
set_option maxHeartbeats 4000000 in
theorem blockLoopQ {t0 t1 t2 t4 t5 t9 t10 t11 t12 t13 t14 t15 t16 t17 t18 t19 t20 t21 t22 t23 t24 t25 t26 t27 t28 t29 t30 t31 t32 t33 t34 t35 t36 t37 t38 t39 t40 t41 t42 t43 t44 t45 t46 t47 t48 t49 t50 t51 t52 t53 t54 t55 t56 t57 t58 t59 t60 t61 t62 t63 t64 t65 t66 t67 t68 t69 t70 t71 t72 t73 t74 t75 t76 t77 t78 t79 t80 t81 t82 t83 t84 t85 t86 t87 t88 t89 t90 t91 t92 t93 t94 t95 t96 t97 t98 t99 t100 t101 t102 t103 t104 t105 t106 t107 t108 t109 t110 t111 t112 t113 t114 t115 t116 t117 t118 t119 t120 t121 t122 t123 t124 t125 t126 t127 t128 t129 t130 t131 t132 t133 t134 t135 t136 t137 t138 t139 t140 t141 t142 t143 t144 t145 t146 t147 t148 t149 t150 t151 t152 t153 t154 t155 t156 t157 t158 t159 t160 t161 t162 t163 t164 t165 t166 t167 t168 t169 t170 t171 t172 t173 t174 t175 t176 t177 t178 t179 t180 t181 t182 t183 t184 t185 t186 t187 t188 t189 t190 t191 t192 t193 t194 t195 t196 t197 t198 t199 t200 t201 t202 t203 t204 t205 t206 t207 t208 t209 t210 t211 t212 t213 t214 t215 t216 t217 t218 t219 t220 t221 t222 t223 t224 t225 : Value} (G gk gb n c J : Nat) (T : List UInt8) (ws : World) (Q : Exit → Act → World → Prop) (hn : n < 1099511627776) (hJ : Hid (n = 64 * J)) (hT : T.length = n) (hby : Bytes ws gb 0 T) (hk : ∀ i, i < 64 → ws.cell? ⟨gk, i, none⟩ = some (.int .u32 (sineTab.getD i 0).toNat)) (hs : Blk ws G 120 (foldQ 0 firstQ T).vals) (hgb : gb < ws.heap.size) (hgk : gk < ws.heap.size) (hne : gb ≠ G) (hne2 : gk ≠ G)
    (h : ∀ (wz : World) (u8 u9 u10 u11 u12 u13 u14 u15 u16 u47 u48 u49 u50 u51 u52 u53 u54 u55 u56 u57 u58 u59 u60 u61 u62 u63 u64 u65 u66 u67 u68 u69 u70 u71 u72 u73 u74 u75 u76 u77 u78 u79 u80 u81 u82 u83 u84 u85 u86 u87 u88 u89 u90 u91 u92 u93 u94 u95 u96 u97 u98 u99 u100 u101 u102 u103 u104 u105 u106 u107 u108 u109 u110 u111 u112 u113 u114 u115 u116 u117 u118 u119 u120 u121 u122 u123 u124 u125 u126 u127 u128 u129 u130 u131 u132 u133 u134 u135 u136 u137 u138 u139 u140 u141 u142 u143 u144 u145 u146 u147 u148 u149 u150 u151 u152 u153 u154 u155 u156 u157 u158 u159 u160 u161 u162 u163 u164 u165 u166 u167 u168 u169 u170 u171 u172 u173 u174 u175 u176 u177 u178 u179 u180 u181 u182 u183 u184 u185 u186 u187 u188 u189 u190 u191 u192 u193 u194 u195 u196 u197 : Value), Blk wz G 120 (foldQ J firstQ T).vals → ws.grownBy wz (some G) → Q (.exit 4) ⟨(t0 :: t1 :: t2 :: .slice (some ⟨gb, 0, none⟩) n c :: t4 :: t5 :: .pointer (some ⟨gk, 0, none⟩) :: .pointer (some ⟨G, 0, none⟩) :: u8 :: u9 :: u10 :: u11 :: u12 :: u13 :: u14 :: u15 :: u16 :: t17 :: t18 :: t19 :: t20 :: t21 :: t22 :: t23 :: t24 :: t25 :: t26 :: t27 :: t28 :: t29 :: t30 :: t31 :: t32 :: t33 :: t34 :: t35 :: t36 :: t37 :: t38 :: t39 :: t40 :: t41 :: t42 :: t43 :: t44 :: t45 :: t46 :: u47 :: u48 :: u49 :: u50 :: u51 :: u52 :: u53 :: u54 :: u55 :: u56 :: u57 :: u58 :: u59 :: u60 :: u61 :: u62 :: u63 :: u64 :: u65 :: u66 :: u67 :: u68 :: u69 :: u70 :: u71 :: u72 :: u73 :: u74 :: u75 :: u76 :: u77 :: u78 :: u79 :: u80 :: u81 :: u82 :: u83 :: u84 :: u85 :: u86 :: u87 :: u88 :: u89 :: u90 :: u91 :: u92 :: u93 :: u94 :: u95 :: u96 :: u97 :: u98 :: u99 :: u100 :: u101 :: u102 :: u103 :: u104 :: u105 :: u106 :: u107 :: u108 :: u109 :: u110 :: u111 :: u112 :: u113 :: u114 :: u115 :: u116 :: u117 :: u118 :: u119 :: u120 :: u121 :: u122 :: u123 :: u124 :: u125 :: u126 :: u127 :: u128 :: u129 :: u130 :: u131 :: u132 :: u133 :: u134 :: u135 :: u136 :: u137 :: u138 :: u139 :: u140 :: u141 :: u142 :: u143 :: u144 :: u145 :: u146 :: u147 :: u148 :: u149 :: u150 :: u151 :: u152 :: u153 :: u154 :: u155 :: u156 :: u157 :: u158 :: u159 :: u160 :: u161 :: u162 :: u163 :: u164 :: u165 :: u166 :: u167 :: u168 :: u169 :: u170 :: u171 :: u172 :: u173 :: u174 :: u175 :: u176 :: u177 :: u178 :: u179 :: u180 :: u181 :: u182 :: u183 :: u184 :: u185 :: u186 :: u187 :: u188 :: u189 :: u190 :: u191 :: u192 :: u193 :: u194 :: u195 :: u196 :: u197 :: t198 :: t199 :: t200 :: t201 :: t202 :: t203 :: t204 :: t205 :: t206 :: t207 :: t208 :: t209 :: t210 :: t211 :: t212 :: t213 :: t214 :: t215 :: t216 :: t217 :: t218 :: t219 :: t220 :: t221 :: t222 :: t223 :: t224 :: t225 :: []).toArray, []⟩ wz) :
    blockLoopQCode.wp Tryd.prog Q ⟨(t0 :: t1 :: t2 :: .slice (some ⟨gb, 0, none⟩) n c :: t4 :: t5 :: .pointer (some ⟨gk, 0, none⟩) :: .pointer (some ⟨G, 0, none⟩) :: .int .i64 0 :: t9 :: t10 :: t11 :: t12 :: t13 :: t14 :: t15 :: t16 :: t17 :: t18 :: t19 :: t20 :: t21 :: t22 :: t23 :: t24 :: t25 :: t26 :: t27 :: t28 :: t29 :: t30 :: t31 :: t32 :: t33 :: t34 :: t35 :: t36 :: t37 :: t38 :: t39 :: t40 :: t41 :: t42 :: t43 :: t44 :: t45 :: t46 :: t47 :: t48 :: t49 :: t50 :: t51 :: t52 :: t53 :: t54 :: t55 :: t56 :: t57 :: t58 :: t59 :: t60 :: t61 :: t62 :: t63 :: t64 :: t65 :: t66 :: t67 :: t68 :: t69 :: t70 :: t71 :: t72 :: t73 :: t74 :: t75 :: t76 :: t77 :: t78 :: t79 :: t80 :: t81 :: t82 :: t83 :: t84 :: t85 :: t86 :: t87 :: t88 :: t89 :: t90 :: t91 :: t92 :: t93 :: t94 :: t95 :: t96 :: t97 :: t98 :: t99 :: t100 :: t101 :: t102 :: t103 :: t104 :: t105 :: t106 :: t107 :: t108 :: t109 :: t110 :: t111 :: t112 :: t113 :: t114 :: t115 :: t116 :: t117 :: t118 :: t119 :: t120 :: t121 :: t122 :: t123 :: t124 :: t125 :: t126 :: t127 :: t128 :: t129 :: t130 :: t131 :: t132 :: t133 :: t134 :: t135 :: t136 :: t137 :: t138 :: t139 :: t140 :: t141 :: t142 :: t143 :: t144 :: t145 :: t146 :: t147 :: t148 :: t149 :: t150 :: t151 :: t152 :: t153 :: t154 :: t155 :: t156 :: t157 :: t158 :: t159 :: t160 :: t161 :: t162 :: t163 :: t164 :: t165 :: t166 :: t167 :: t168 :: t169 :: t170 :: t171 :: t172 :: t173 :: t174 :: t175 :: t176 :: t177 :: t178 :: t179 :: t180 :: t181 :: t182 :: t183 :: t184 :: t185 :: t186 :: t187 :: t188 :: t189 :: t190 :: t191 :: t192 :: t193 :: t194 :: t195 :: t196 :: t197 :: t198 :: t199 :: t200 :: t201 :: t202 :: t203 :: t204 :: t205 :: t206 :: t207 :: t208 :: t209 :: t210 :: t211 :: t212 :: t213 :: t214 :: t215 :: t216 :: t217 :: t218 :: t219 :: t220 :: t221 :: t222 :: t223 :: t224 :: t225 :: []).toArray, []⟩ ws := by
  conv => arg 2; whnf
  have hGl := hs.lt
  go_loopw [8] (fun i w6 => ∃ b p : Nat, b ≤ J ∧ Hid (p = 64 * b) ∧ i = .int .i64 (p : Int) ∧ Blk w6 G 120 (foldQ b firstQ T).vals ∧ ws.grownBy w6 (some G)) (fun i _ => n - (intOf i).toNat)
  case atStart => exact ⟨0, 0, Nat.zero_le _, (show _ = _ from rfl), rfl, hs, grown_refl _ _⟩
  case round =>
    clear hs
    obtain ⟨b, p, hbJ, HP, rfl, hs, hg⟩ := hrel
    have hsz := hg.size
    by_cases hlt : b < J
    · have hpn : p + 64 ≤ n := by have := HP.out; have := hJ.out; omega
      have hpn' : p < n := by omega
      have hbyr : Bytes wr gb 0 T := fun j hj => (World.cell?_of_block (a := ⟨gb, 0 + j, none⟩) (hg.block gb hgb (by simpa using hne))).trans (hby j hj)
      have hkr : ∀ i, i < 64 → wr.cell? ⟨gk, i, none⟩ = some (.int .u32 (sineTab.getD i 0).toNat) := fun i hi => (World.cell?_of_block (a := ⟨gk, i, none⟩) (hg.block gk hgk (by simpa using hne2))).trans (hk i hi)
      have hbb := fun i (hi : i < 64) => hbyr.blkQ b p i HP.out hi (by omega)
      obtain ⟨S, hS⟩ : ∃ S, S = foldQ b firstQ T := ⟨_, rfl⟩
      rw [← hS] at hs
      have HS := Lib.hid hS
      have hGr := hs.lt
      clear hS hbyr
      go_wp2_with (first
        | ((with_reducible refine (?_ : wpList _ _ _ (Oper.mk (some 53) _ _ _ _ _ :: _) _ _)); go_loud (refine wpList_load_blk rfl 120 (.tmp 7) rfl G rfl 120 _ _ hs Tryd.underlying120 rfl (info43 S) ?_))
        | ((with_reducible refine (?_ : wpList _ _ _ (Oper.mk none (.store 120 _ _) _ _ _ _ :: _) _ _)); go_loud (refine wpList_store_blk rfl 120 (.tmp 9) (.tmp 53) rfl rfl wr.heap.size S.vals rfl rfl 120 (List.replicate 4 (.int .u32 0)) (Blk.new_of wr _ _ _ (by rfl)) (info43 S) (by rfl) (qd_one4 _) ?_); intro w5 hv5 hg5))
      have hs5 := (hs.alloc _).grown hg5 (by simp; omega)
      have hz5 : wr.heap.size < w5.heap.size := hv5.lt
      have hg6 := grown_new (grown_alloc (grown_refl wr (some G)) _) hg5 (Nat.le_refl _)
      clear hg5 hs
      refine roundLoopQ gb n c p gk wr.heap.size wr.heap.size (blkQ T b) S _ _ hpn hn (by omega) (by omega) (Nat.le_refl _) (fun i hi => (World.cell?_of_block (a := ⟨gb, p + i, none⟩) (hg6.block gb (by omega) (by simpa using hne))).trans (hbb i hi)) (fun i hi => (World.cell?_of_block (a := ⟨gk, i, none⟩) (hg6.block gk (by omega) (by simpa using hne2))).trans (hkr i hi)) hv5 (Nat.le_of_lt hz5) ?_
      intro wz6
      intros
      rename_i hv6 hb6
      have hs6 := hs5.below hb6 hGr
      have hg7 := grown_then_belowQ hg6 hb6 (Nat.le_refl _)
      have hne3 : wr.heap.size ≠ G := by omega
      clear hb6 hg6 hs5 hv5 hbb hkr
      go_wp2
      refine addLoopQ G wr.heap.size S (stepsQ (blkQ T b) 64 S) _ _ hne3 hs6 hv6 ?_
      intro wz7
      intros
      rename_i hs7 hg8
      have hg9 := grown_trans hg7 hg8
      clear hg7 hg8 hs6 hv6
      go_wp2
      go_roundw
      case rel =>
        refine ⟨b + 1, p + 64, hlt, ?_, by go_num, ?_, grown_trans hg hg9⟩
        · show _ = _
          have := HP.out; omega
        · rw [foldQ_succ, ← HS.out]
          exact hs7
      case measure => simp [intOf]; omega
    · have hbe : b = J := by omega
      have hpn' : ¬ p < n := by have := HP.out; have := hJ.out; omega
      rw [hbe] at hs
      go_wp2
      exact h _ _ _ _ _ _ _ _ _ _ _ _ _ _ _ _ _ _ _ _ _ _ _ _ _ _ _ _ _ _ _ _ _ _ _ _ _ _ _ _ _ _ _ _ _ _ _ _ _ _ _ _ _ _ _ _ _ _ _ _ _ _ _ _ _ _ _ _ _ _ _ _ _ _ _ _ _ _ _ _ _ _ _ _ _ _ _ _ _ _ _ _ _ _ _ _ _ _ _ _ _ _ _ _ _ _ _ _ _ _ _ _ _ _ _ _ _ _ _ _ _ _ _ _ _ _ _ _ _ _ _ _ _ _ _ _ _ _ _ _ _ _ _ _ _ _ _ _ _ _ _ _ _ _ _ _ _ _ _ _ _ hs hg


end
section
open Go.RowKit Go.BigFrame
theorem src_rowQ {w : World} {g n : Nat} {t : TypeId} {ys : List UInt8} (h : Blk w g t (ys.map B8)) (hn : ys.length = n) : _root_.Go.Src Tryd.prog 1 26 (.slice (some ⟨g, 0, none⟩) n n) ys.length (ys.map B8) w := by
  subst hn
  refine _root_.Go.Src.ofSlice w Tryd.underlying26 ⟨g, 0, none⟩ ys.length ys.length _ (by simp) (fun j u hu => ?_) (oneB8 _)
  rw [add_row, Nat.zero_add, h.cell, hu]
/-- The bytes of the first k words. -/
def outQ (ws : List UInt32) (k : Nat) : List UInt8 := (ws.take k).flatMap leBytes4
theorem outQ_succ (ws : List UInt32) (k : Nat) (h : k < ws.length) : outQ ws (k + 1) = outQ ws k ++ leBytes4 (ws.getD k 0) := by
  unfold outQ
  rw [List.take_succ_eq_append_getElem h, List.flatMap_append, List.getD_eq_getElem?_getD, List.getElem?_eq_getElem h]
  simp
theorem outQ_all (s : Qd) : outQ s.words 4 = bytesQ s := by
  simp [outQ, Qd.words, bytesQ]
theorem u8_of (x : UInt32) : IntKind.u8.wrap (x.toNat : Int) = ((x.toUInt8).toNat : Int) := by
  rw [IntKind.wrap_u8]; simp
noncomputable def outLoopQCode : Code := ((Tryd.f53.body.bind (loopQ 39)).getD .skip)
set_option maxRecDepth 1000000 in
set_option maxHeartbeats 4000000 in
theorem outLoopQ {t0 t1 t2 t3 t4 t5 t6 t8 t9 t10 t11 t12 t13 t14 t15 t16 t19 t20 t21 t22 t23 t24 t25 t26 t27 t28 t29 t30 t31 t32 t33 t34 t35 t36 t37 t38 t39 t40 t41 t42 t43 t44 t45 t46 t47 t48 t49 t50 t51 t52 t53 t54 t55 t56 t57 t58 t59 t60 t61 t62 t63 t64 t65 t66 t67 t68 t69 t70 t71 t72 t73 t74 t75 t76 t77 t78 t79 t80 t81 t82 t83 t84 t85 t86 t87 t88 t89 t90 t91 t92 t93 t94 t95 t96 t97 t98 t99 t100 t101 t102 t103 t104 t105 t106 t107 t108 t109 t110 t111 t112 t113 t114 t115 t116 t117 t118 t119 t120 t121 t122 t123 t124 t125 t126 t127 t128 t129 t130 t131 t132 t133 t134 t135 t136 t137 t138 t139 t140 t141 t142 t143 t144 t145 t146 t147 t148 t149 t150 t151 t152 t153 t154 t155 t156 t157 t158 t159 t160 t161 t162 t163 t164 t165 t166 t167 t168 t169 t170 t171 t172 t173 t174 t175 t176 t177 t178 t179 t180 t181 t182 t183 t184 t185 t186 t187 t188 t189 t190 t191 t192 t193 t194 t195 t196 t197 t198 t199 t200 t201 t202 t203 t204 t205 t206 t207 t208 t209 t210 t211 t212 t213 t214 t215 t216 t217 t218 t219 t220 t221 t222 t223 t224 t225 : Value} (g : Nat) (s : Qd) (ws : World) (Q : Exit → Act → World → Prop) (hs : Blk ws g 120 s.vals)
    (h : ∀ (wz : World) (u17 u18 u198 u199 u200 u201 u202 u203 u204 u205 u206 u207 u208 u209 u210 u211 u212 u213 u214 u215 u216 u217 u218 u219 u220 u221 u222 u223 : Value), ∀ (A : Option Addr) (c : Nat), u17 = .slice A 16 c → Buf wz ws.heap.size A 16 c (bytesQ s) → Below ws.heap.size ws wz → Q (.exit 11) ⟨(t0 :: t1 :: t2 :: t3 :: t4 :: t5 :: t6 :: .pointer (some ⟨g, 0, none⟩) :: t8 :: t9 :: t10 :: t11 :: t12 :: t13 :: t14 :: t15 :: t16 :: u17 :: u18 :: t19 :: t20 :: t21 :: t22 :: t23 :: t24 :: t25 :: t26 :: t27 :: t28 :: t29 :: t30 :: t31 :: t32 :: t33 :: t34 :: t35 :: t36 :: t37 :: t38 :: t39 :: t40 :: t41 :: t42 :: t43 :: t44 :: t45 :: t46 :: t47 :: t48 :: t49 :: t50 :: t51 :: t52 :: t53 :: t54 :: t55 :: t56 :: t57 :: t58 :: t59 :: t60 :: t61 :: t62 :: t63 :: t64 :: t65 :: t66 :: t67 :: t68 :: t69 :: t70 :: t71 :: t72 :: t73 :: t74 :: t75 :: t76 :: t77 :: t78 :: t79 :: t80 :: t81 :: t82 :: t83 :: t84 :: t85 :: t86 :: t87 :: t88 :: t89 :: t90 :: t91 :: t92 :: t93 :: t94 :: t95 :: t96 :: t97 :: t98 :: t99 :: t100 :: t101 :: t102 :: t103 :: t104 :: t105 :: t106 :: t107 :: t108 :: t109 :: t110 :: t111 :: t112 :: t113 :: t114 :: t115 :: t116 :: t117 :: t118 :: t119 :: t120 :: t121 :: t122 :: t123 :: t124 :: t125 :: t126 :: t127 :: t128 :: t129 :: t130 :: t131 :: t132 :: t133 :: t134 :: t135 :: t136 :: t137 :: t138 :: t139 :: t140 :: t141 :: t142 :: t143 :: t144 :: t145 :: t146 :: t147 :: t148 :: t149 :: t150 :: t151 :: t152 :: t153 :: t154 :: t155 :: t156 :: t157 :: t158 :: t159 :: t160 :: t161 :: t162 :: t163 :: t164 :: t165 :: t166 :: t167 :: t168 :: t169 :: t170 :: t171 :: t172 :: t173 :: t174 :: t175 :: t176 :: t177 :: t178 :: t179 :: t180 :: t181 :: t182 :: t183 :: t184 :: t185 :: t186 :: t187 :: t188 :: t189 :: t190 :: t191 :: t192 :: t193 :: t194 :: t195 :: t196 :: t197 :: u198 :: u199 :: u200 :: u201 :: u202 :: u203 :: u204 :: u205 :: u206 :: u207 :: u208 :: u209 :: u210 :: u211 :: u212 :: u213 :: u214 :: u215 :: u216 :: u217 :: u218 :: u219 :: u220 :: u221 :: u222 :: u223 :: t224 :: t225 :: []).toArray, []⟩ wz) :
    outLoopQCode.wp Tryd.prog Q ⟨(t0 :: t1 :: t2 :: t3 :: t4 :: t5 :: t6 :: .pointer (some ⟨g, 0, none⟩) :: t8 :: t9 :: t10 :: t11 :: t12 :: t13 :: t14 :: t15 :: t16 :: .slice none 0 0 :: .int .i64 0 :: t19 :: t20 :: t21 :: t22 :: t23 :: t24 :: t25 :: t26 :: t27 :: t28 :: t29 :: t30 :: t31 :: t32 :: t33 :: t34 :: t35 :: t36 :: t37 :: t38 :: t39 :: t40 :: t41 :: t42 :: t43 :: t44 :: t45 :: t46 :: t47 :: t48 :: t49 :: t50 :: t51 :: t52 :: t53 :: t54 :: t55 :: t56 :: t57 :: t58 :: t59 :: t60 :: t61 :: t62 :: t63 :: t64 :: t65 :: t66 :: t67 :: t68 :: t69 :: t70 :: t71 :: t72 :: t73 :: t74 :: t75 :: t76 :: t77 :: t78 :: t79 :: t80 :: t81 :: t82 :: t83 :: t84 :: t85 :: t86 :: t87 :: t88 :: t89 :: t90 :: t91 :: t92 :: t93 :: t94 :: t95 :: t96 :: t97 :: t98 :: t99 :: t100 :: t101 :: t102 :: t103 :: t104 :: t105 :: t106 :: t107 :: t108 :: t109 :: t110 :: t111 :: t112 :: t113 :: t114 :: t115 :: t116 :: t117 :: t118 :: t119 :: t120 :: t121 :: t122 :: t123 :: t124 :: t125 :: t126 :: t127 :: t128 :: t129 :: t130 :: t131 :: t132 :: t133 :: t134 :: t135 :: t136 :: t137 :: t138 :: t139 :: t140 :: t141 :: t142 :: t143 :: t144 :: t145 :: t146 :: t147 :: t148 :: t149 :: t150 :: t151 :: t152 :: t153 :: t154 :: t155 :: t156 :: t157 :: t158 :: t159 :: t160 :: t161 :: t162 :: t163 :: t164 :: t165 :: t166 :: t167 :: t168 :: t169 :: t170 :: t171 :: t172 :: t173 :: t174 :: t175 :: t176 :: t177 :: t178 :: t179 :: t180 :: t181 :: t182 :: t183 :: t184 :: t185 :: t186 :: t187 :: t188 :: t189 :: t190 :: t191 :: t192 :: t193 :: t194 :: t195 :: t196 :: t197 :: t198 :: t199 :: t200 :: t201 :: t202 :: t203 :: t204 :: t205 :: t206 :: t207 :: t208 :: t209 :: t210 :: t211 :: t212 :: t213 :: t214 :: t215 :: t216 :: t217 :: t218 :: t219 :: t220 :: t221 :: t222 :: t223 :: t224 :: t225 :: []).toArray, []⟩ ws := by
  conv => arg 2; whnf
  rw [valsQ] at hs
  have hgl := hs.lt
  go_loopw [17, 18] (fun v i w6 => ∃ (k m : Nat) (A : Option Addr) (c : Nat), k ≤ 4 ∧ Hid (m = 4 * k) ∧ i = .int .i64 (k : Int) ∧ v = .slice A m c ∧ Buf w6 ws.heap.size A m c (outQ s.words k) ∧ Below ws.heap.size ws w6) (fun _ i _ => 4 - (intOf i).toNat)
  case atStart => exact ⟨0, 0, none, 0, by omega, (show _ = _ from rfl), rfl, rfl, Buf.nil _ _, Below.refl _ _⟩
  case round =>
    obtain ⟨k, m, A, c, hk, HM, rfl, rfl, hB, hb⟩ := hrel
    by_cases hlt : k < 4
    · have hd : decide ((k : Int) < 4) = true := by simp; omega
      have HO := Lib.hid (outQ_succ s.words k (by show k < 4; omega))
      obtain ⟨x, hx⟩ : ∃ x, x = s.words.getD k 0 := ⟨_, rfl⟩
      have hbs0 := hb.size
      have hX := fun (V : World) (h : Below wr.heap.size wr V) => (show V.cell? ⟨g, k, none⟩ = some (.int .u32 x.toNat) from by
        have c0 := (hs.below (hb.trans (h.mono hbs0)) hgl).at32 k (by show k < 4; omega)
        rw [← hx] at c0
        exact c0)
      have HX := Lib.hid hx
      have k0 : (0 : Int) ≤ (k : Int) := by omega
      have k1 : (k : Int) < 4 := by omega
      clear hx hbs0
      obtain ⟨S1, hS1⟩ : ∃ z, z = x >>> 8 := ⟨_, rfl⟩
      obtain ⟨S2, hS2⟩ : ∃ z, z = x >>> 16 := ⟨_, rfl⟩
      obtain ⟨S3, hS3⟩ : ∃ z, z = x >>> 24 := ⟨_, rfl⟩
      have d1 : (x.toNat : Int) / 256 = (S1.toNat : Int) := by rw [hS1]; exact w_shr x 8 (by decide)
      have d2 : (x.toNat : Int) / 65536 = (S2.toNat : Int) := by rw [hS2]; exact w_shr x 16 (by decide)
      have d3 : (x.toNat : Int) / 16777216 = (S3.toNat : Int) := by rw [hS3]; exact w_shr x 24 (by decide)
      obtain ⟨B0, hB0⟩ : ∃ z, z = x.toUInt8 := ⟨_, rfl⟩
      have z0 : IntKind.u8.wrap (x.toNat : Int) = (B0.toNat : Int) := by rw [hB0]; exact u8_of _
      obtain ⟨B1, hB1⟩ : ∃ z, z = S1.toUInt8 := ⟨_, rfl⟩
      have z1 : IntKind.u8.wrap (S1.toNat : Int) = (B1.toNat : Int) := by rw [hB1]; exact u8_of _
      obtain ⟨B2, hB2⟩ : ∃ z, z = S2.toUInt8 := ⟨_, rfl⟩
      have z2 : IntKind.u8.wrap (S2.toNat : Int) = (B2.toNat : Int) := by rw [hB2]; exact u8_of _
      obtain ⟨B3, hB3⟩ : ∃ z, z = S3.toUInt8 := ⟨_, rfl⟩
      have z3 : IntKind.u8.wrap (S3.toNat : Int) = (B3.toNat : Int) := by rw [hB3]; exact u8_of _
      have HL : Hid (leBytes4 x = [B0, B1, B2, B3]) := Lib.hid (by rw [hB0, hB1, hB2, hB3, hS1, hS2, hS3]; rfl)
      clear hB0 hB1 hB2 hB3 hS1 hS2 hS3
      go_wp2
      refine wp_region_noPanic ?_
      apply wp_region_once_tail (m := 20) (Z := [0]) (D := [[], [], [1], [1, 2], [1, 2, 3], [], [5], [5, 6], [5, 6, 7], [5, 6, 7, 8], [], [10], [10, 11], [10, 11, 12], [10, 11, 12, 13], [], [15], [15, 16], [15, 16, 17], [15, 16, 17, 18], [1, 2, 3, 4, 5, 6, 7, 8, 9, 10, 11, 12, 13, 14, 15, 16, 17, 18, 19], [0, 1, 2, 3, 4, 5, 6, 7, 8, 9, 10, 11, 12, 13, 14, 15, 16, 17, 18, 19, 20], [0, 1, 2, 3, 4, 5, 6, 7, 8, 9, 10, 11, 12, 13, 14, 15, 16, 17, 18, 19, 20, 21]]) (J := [[], [], [1], [2], [3], [], [5], [6], [7], [8], [], [10], [11], [12], [13], [], [15], [16], [17], [18]]) (Je := [0, 4, 9, 14, 19]) (Rs := [Is _, Is _, Is _, Is _, Is _, Is _, Is _, Is _, Is _, Is _, Is _, Is _, Is _, Is _, Is _, Is _, Is _, Is _, Is _, Is _])
      · kernel_rfl
      · kernel_rfl
      · kernel_rfl
      · kernel_rfl
      · kernel_rfl
      · kernel_rfl
      · kernel_rfl
      · exact fun _ _ _ _ _ _ h => h
      · intro u
        simp only [List.take_succ_cons, List.take_zero, List.map_cons, List.map_nil, fillU, List.setIfInBounds_toArray, List.set_cons_zero, List.set_cons_succ, Nat.zero_add, Nat.reduceAdd]
        exact rfl
      · simp only [List.take_succ_cons, List.take_zero]
        refine ⟨fun u W hb hd K hK => ?_, ?_⟩
        · clear hd
          go_simp
          apply hK
          · simp only [Act.put, List.setIfInBounds_toArray, List.set_cons_zero, List.set_cons_succ]
            exact rfl
          · exact Below.refl _ _
          · exact IsOut
        refine ⟨fun u W hb hd K hK => ?_, ?_⟩
        · clear hd
          go_simp
          apply hK
          · simp only [Act.put, List.setIfInBounds_toArray, List.set_cons_zero, List.set_cons_succ]
            exact rfl
          · exact Below.refl _ _
          · exact IsOut
        refine ⟨fun u W hb hd K hK => ?_, ?_⟩
        · simp only [Facts, nthR, Is, and_true] at hd
          simp only [hd] at hK ⊢
          clear hd
          go_simp
          apply hK
          · simp only [Act.put, List.setIfInBounds_toArray, List.set_cons_zero, List.set_cons_succ]
            exact rfl
          · exact Below.refl _ _
          · exact IsOut
        refine ⟨fun u W hb hd K hK => ?_, ?_⟩
        · simp only [Facts, nthR, Is, and_true] at hd
          simp only [hd] at hK ⊢
          clear hd
          go_simp
          apply hK
          · simp only [Act.put, List.setIfInBounds_toArray, List.set_cons_zero, List.set_cons_succ]
            exact rfl
          · exact Below.refl _ _
          · exact IsOut
        refine ⟨fun u W hb hd K hK => ?_, ?_⟩
        · simp only [Facts, nthR, Is, and_true] at hd
          simp only [hd] at hK ⊢
          clear hd
          go_simp
          apply hK
          · simp only [Act.put, List.setIfInBounds_toArray, List.set_cons_zero, List.set_cons_succ]
            exact rfl
          · exact Below.refl _ _
          · exact IsOut
        refine ⟨fun u W hb hd K hK => ?_, ?_⟩
        · clear hd
          go_simp
          apply hK
          · simp only [Act.put, List.setIfInBounds_toArray, List.set_cons_zero, List.set_cons_succ]
            exact rfl
          · exact Below.refl _ _
          · exact IsOut
        refine ⟨fun u W hb hd K hK => ?_, ?_⟩
        · simp only [Facts, nthR, Is, and_true] at hd
          simp only [hd] at hK ⊢
          clear hd
          go_simp
          apply hK
          · simp only [Act.put, List.setIfInBounds_toArray, List.set_cons_zero, List.set_cons_succ]
            exact rfl
          · exact Below.refl _ _
          · exact IsOut
        refine ⟨fun u W hb hd K hK => ?_, ?_⟩
        · simp only [Facts, nthR, Is, and_true] at hd
          simp only [hd] at hK ⊢
          clear hd
          go_simp
          apply hK
          · simp only [Act.put, List.setIfInBounds_toArray, List.set_cons_zero, List.set_cons_succ]
            exact rfl
          · exact Below.refl _ _
          · exact IsOut
        refine ⟨fun u W hb hd K hK => ?_, ?_⟩
        · simp only [Facts, nthR, Is, and_true] at hd
          simp only [hd] at hK ⊢
          clear hd
          go_simp
          apply hK
          · simp only [Act.put, List.setIfInBounds_toArray, List.set_cons_zero, List.set_cons_succ]
            exact rfl
          · exact Below.refl _ _
          · exact IsOut
        refine ⟨fun u W hb hd K hK => ?_, ?_⟩
        · simp only [Facts, nthR, Is, and_true] at hd
          simp only [hd] at hK ⊢
          clear hd
          go_simp
          apply hK
          · simp only [Act.put, List.setIfInBounds_toArray, List.set_cons_zero, List.set_cons_succ]
            exact rfl
          · exact Below.refl _ _
          · exact IsOut
        refine ⟨fun u W hb hd K hK => ?_, ?_⟩
        · clear hd
          go_simp
          apply hK
          · simp only [Act.put, List.setIfInBounds_toArray, List.set_cons_zero, List.set_cons_succ]
            exact rfl
          · exact Below.refl _ _
          · exact IsOut
        refine ⟨fun u W hb hd K hK => ?_, ?_⟩
        · simp only [Facts, nthR, Is, and_true] at hd
          simp only [hd] at hK ⊢
          clear hd
          go_simp
          apply hK
          · simp only [Act.put, List.setIfInBounds_toArray, List.set_cons_zero, List.set_cons_succ]
            exact rfl
          · exact Below.refl _ _
          · exact IsOut
        refine ⟨fun u W hb hd K hK => ?_, ?_⟩
        · simp only [Facts, nthR, Is, and_true] at hd
          simp only [hd] at hK ⊢
          clear hd
          go_simp
          apply hK
          · simp only [Act.put, List.setIfInBounds_toArray, List.set_cons_zero, List.set_cons_succ]
            exact rfl
          · exact Below.refl _ _
          · exact IsOut
        refine ⟨fun u W hb hd K hK => ?_, ?_⟩
        · simp only [Facts, nthR, Is, and_true] at hd
          simp only [hd] at hK ⊢
          clear hd
          go_simp
          apply hK
          · simp only [Act.put, List.setIfInBounds_toArray, List.set_cons_zero, List.set_cons_succ]
            exact rfl
          · exact Below.refl _ _
          · exact IsOut
        refine ⟨fun u W hb hd K hK => ?_, ?_⟩
        · simp only [Facts, nthR, Is, and_true] at hd
          simp only [hd] at hK ⊢
          clear hd
          go_simp
          apply hK
          · simp only [Act.put, List.setIfInBounds_toArray, List.set_cons_zero, List.set_cons_succ]
            exact rfl
          · exact Below.refl _ _
          · exact IsOut
        refine ⟨fun u W hb hd K hK => ?_, ?_⟩
        · clear hd
          go_simp
          apply hK
          · simp only [Act.put, List.setIfInBounds_toArray, List.set_cons_zero, List.set_cons_succ]
            exact rfl
          · exact Below.refl _ _
          · exact IsOut
        refine ⟨fun u W hb hd K hK => ?_, ?_⟩
        · simp only [Facts, nthR, Is, and_true] at hd
          simp only [hd] at hK ⊢
          clear hd
          go_simp
          apply hK
          · simp only [Act.put, List.setIfInBounds_toArray, List.set_cons_zero, List.set_cons_succ]
            exact rfl
          · exact Below.refl _ _
          · exact IsOut
        refine ⟨fun u W hb hd K hK => ?_, ?_⟩
        · simp only [Facts, nthR, Is, and_true] at hd
          simp only [hd] at hK ⊢
          clear hd
          go_simp
          apply hK
          · simp only [Act.put, List.setIfInBounds_toArray, List.set_cons_zero, List.set_cons_succ]
            exact rfl
          · exact Below.refl _ _
          · exact IsOut
        refine ⟨fun u W hb hd K hK => ?_, ?_⟩
        · simp only [Facts, nthR, Is, and_true] at hd
          simp only [hd] at hK ⊢
          clear hd
          go_simp
          apply hK
          · simp only [Act.put, List.setIfInBounds_toArray, List.set_cons_zero, List.set_cons_succ]
            exact rfl
          · exact Below.refl _ _
          · exact IsOut
        refine ⟨fun u W hb hd K hK => ?_, ?_⟩
        · simp only [Facts, nthR, Is, and_true] at hd
          simp only [hd] at hK ⊢
          clear hd
          go_simp
          apply hK
          · simp only [Act.put, List.setIfInBounds_toArray, List.set_cons_zero, List.set_cons_succ]
            exact rfl
          · exact Below.refl _ _
          · exact IsOut
        exact trivial
      · skip
        refine ⟨fun o ho u W hb hd => ?_, ?_⟩
        · obtain rfl := Option.some.inj ho
          simp only [Facts, List.getD_cons_zero] at hd
          exact ⟨_, .inl ⟨by rfl, fun w' => by go_simp⟩, IsOut (w := W)⟩
        exact trivial
      · exact (.is (.is (.is (.is (.is (.is (.is (.is (.is (.is (.is (.is (.is (.is (.is (.is (.is (.is (.is (.is .nil))))))))))))))))))))
      · intro u W hb41 hd
        simp only [List.drop_succ_cons, List.drop_zero]
        simp only [Facts, nthR, Is, and_true] at hd
        simp only [hd]
        clear hd
        replace hB := hB.below hb41
        replace hb := hb.trans (hb41.mono hb.size)
        have hbs := hb.size
        clear hX hb41 d1 d2 d3 z0 z1 z2 z3 hgl
        have hrow : Blk (W.alloc (.cells #[.int .u8 B0.toNat, .int .u8 B1.toNat, .int .u8 B2.toNat, .int .u8 B3.toNat] 5)) W.heap.size 5 ((leBytes4 x).map B8) := Blk.new_of W _ _ _ (by rw [HL.out]; rfl)
        have HR := Lib.hid hrow
        clear hrow
        go_wp2_with ((with_reducible refine (?_ : wpList _ _ _ (Oper.mk (some 223) _ _ _ _ _ :: _) _ _)); go_loud (refine wpList_append_buf rfl (.tmp 202) (.tmp 222) 26 rfl ws.heap.size A m c (outQ s.words k) (leBytes4 x) _ rfl (hB.alloc _) rfl (src_rowQ HR.out rfl) (by show m + 4 ≤ _; have := HM.out; omega) (by simp <;> omega) ?_); intro A' c' w' hB' hg'; have hb' := below_own (hb.alloc hbs _) (hB.alloc _) hg' (Nat.le_refl _) (by simp <;> omega))
        refine NoPanic.normal ?_
        go_wp2
        go_roundw
        case rel =>
          refine ⟨k + 1, m + 4, A', c', by omega, ?_, by go_num, rfl, ?_, hb'⟩
          · show _ = _
            have := HM.out; omega
          · rw [HO.out, ← HX.out]
            exact hB'
        case measure => simp [intOf]; omega
    · have hd : decide ((k : Int) < 4) = false := by simp; omega
      obtain rfl : k = 4 := by omega
      have hm : m = 16 := HM.out
      rw [outQ_all, hm] at hB
      have HA := Lib.hid hm
      go_wp2
      exact h _ _ _ _ _ _ _ _ _ _ _ _ _ _ _ _ _ _ _ _ _ _ _ _ _ _ _ _ _ A c (by rw [HA.out]) hB hb


end
section
open Go.RowKit
theorem byte_ofQ (n p : Nat) : Value.int .u8 ((n : Int) * 8 / 2 ^ p % 256) = B8 (UInt8.ofNat (n * 8 / 2 ^ p)) := by
  have h : ((n : Int) * 8 / 2 ^ p % 256) = ((UInt8.ofNat (n * 8 / 2 ^ p)).toNat : Int) := by simp
  rw [h]
theorem pad_partsQ (s : List UInt8) (z : Nat) (hz : z = (119 - s.length % 64) % 64) : (s ++ [128] ++ List.replicate z 0) ++ leTo (s.length * 8) 8 = s ++ padQ s.length := by
  unfold padQ
  rw [← hz, leTo_eight]; simp
theorem pad_blocksQ (m : List UInt8) : 64 * ((m ++ padQ m.length).length / 64) = (m ++ padQ m.length).length := by
  rw [List.length_append, padQ_length]; omega

set_option maxRecDepth 1000000 in
set_option maxHeartbeats 4000000 in
theorem refSumQ_any (s : List UInt8) (w : World) (hn : s.length < 549755813888) :
    Calls Tryd.prog 53 #[.string ⟨s.toArray⟩] w fun e w' => e = .returned (.string ⟨(md5 s).toArray⟩) ∧ Below w.heap.size w w' := by
  have HN := Lib.hid hn
  clear hn
  go_enter Tryd.func53, Tryd.ntmps53
  go_wp2_with (first
    | ((with_reducible refine (?_ : wpList _ _ _ (Oper.mk (some 20) _ _ _ _ _ :: _) _ _)); go_loud (refine wpList_bytes_of rfl (.tmp 19) rfl s rfl (by have := HN.out; omega) ?_); intro c4 w4 hB4 hb4; have hz4 : w.heap.size ≤ w4.heap.size := hb4.size)
    | ((with_reducible refine (?_ : wpList _ _ _ (Oper.mk (some 22) _ _ _ _ _ :: _) _ _)); go_loud (refine wpList_append_buf rfl (.tmp 20) (.tmp 21) 26 rfl _ _ _ _ _ [128] _ rfl (hB4.alloc _) rfl (src_byte (by refine (new_cell _ _ _).trans ?_; rfl)) (by have := HN.out; simp only [List.length_cons, List.length_nil]; omega) (by simp <;> omega) ?_); intro A5 c5 w5 hB5 hg5; have hb5 := below_own (hb4.alloc hb4.size _) (hB4.alloc _) hg5 (by omega) (by simp <;> omega); clear hg5 hB4 hb4))
  obtain ⟨z, hzz⟩ : ∃ z, z = (119 - s.length % 64) % 64 := ⟨_, rfl⟩
  have HZ := Lib.hid hzz
  clear hzz
  go_loopw [3] (fun v wr => ∃ (k : Nat) (A : Option Addr) (c : Nat), k ≤ z ∧ v = .slice A (s.length + 1 + k) c ∧ Buf wr w.heap.size A (s.length + 1 + k) c ((s ++ [128]) ++ List.replicate k 0) ∧ Below w.heap.size w wr) (fun v _ => s.length + 65 - lenOf v)
  case atStart => exact ⟨0, A5, c5, by omega, rfl, by simpa using hB5, hb5⟩
  case round =>
    clear hB5 hb5
    obtain ⟨k, A, c, hk, rfl, hB, hb⟩ := hrel
    have hbz := hb.size
    by_cases hlt : k < z
    · have hd : (((s.length : Int) + 1 + (k : Int)) % 64 != 56) = true := by have := HZ.out; simp; omega
      go_wp2_with ((with_reducible refine (?_ : wpList _ _ _ (Oper.mk (some 29) _ _ _ _ _ :: _) _ _)); go_loud (refine wpList_append_buf rfl (.tmp 27) (.tmp 28) 26 rfl _ _ _ _ _ [0] _ rfl (hB.alloc _) rfl (src_byte (by refine (new_cell _ _ _).trans ?_; rfl)) (by have := HN.out; have := HZ.out; simp only [List.length_cons, List.length_nil]; omega) (by simp <;> omega) ?_); intro A' c' w' hB' hg')
      go_roundw
      case rel =>
        refine ⟨k + 1, A', c', by omega, rfl, ?_, below_own (hb.alloc hbz _) (hB.alloc _) hg' (by omega) (by simp <;> omega)⟩
        have e : (s ++ [128] ++ List.replicate k 0) ++ [0] = s ++ [128] ++ List.replicate (k + 1) (0 : UInt8) := by rw [List.append_assoc, ← List.replicate_succ']
        rw [e] at hB'
        exact hB'
      case measure => have := HZ.out; simp [lenOf]; omega
    · have hd : (((s.length : Int) + 1 + (k : Int)) % 64 != 56) = false := by have := HZ.out; simp; omega
      obtain rfl : k = z := by omega
      clear hk hlt
      have hl8 : (((s.length : Int) * 8)) % 18446744073709551616 = ((s.length * 8 : Nat) : Int) := by have := HN.out; omega
      have hl8' : IntKind.u64.wrap ((s.length : Int) * 8) = ((s.length * 8 : Nat) : Int) := by have := HN.out; simp [IntKind.wrap, IntKind.signed, IntKind.bits]; omega
      go_wp2
      obtain ⟨M, hM⟩ : ∃ M, M = s ++ [128] ++ List.replicate k 0 := ⟨_, rfl⟩
      obtain ⟨L, hL⟩ : ∃ L, L = s.length + 1 + k := ⟨_, rfl⟩
      rw [← hM, ← hL] at hB
      have hLk : L = s.length + 1 + k := hL
      rw [← hL]
      clear hd hl8 hl8' hL
      have HL := Lib.hid hLk
      have HM := Lib.hid hM
      clear hLk hM
      obtain ⟨wo, rfl⟩ : ∃ wo : World, wo = wr := ⟨_, rfl⟩
      go_loopw [3, 5] (fun v i wr => ∃ (j : Nat) (A : Option Addr) (c : Nat) (q : Nat), j ≤ 8 ∧ Hid (q = 8 * j) ∧ i = .int .i64 (q : Int) ∧ v = .slice A (L + j) c ∧ Buf wr w.heap.size A (L + j) c (M ++ leTo (s.length * 8) j) ∧ Below w.heap.size w wr) (fun _ i _ => 64 - (intOf i).toNat)
      case atStart => exact ⟨0, A, c, 0, by omega, (show _ = _ from rfl), rfl, rfl, by simpa [leTo] using hB, hb⟩
      case round =>
        clear hB hb hbz
        obtain ⟨j, A, c, q, hj, HQ, rfl, rfl, hB, hb⟩ := hrel
        have hbz := hb.size
        by_cases hlt : j < 8
        · have hp : q ≤ 56 := by have := HQ.out; omega
          have hd : decide ((q : Int) < 64) = true := by simp; omega
          have h0 : ¬ ((q : Int) < 0) := by omega
          have h1 : (0 : Int) ≤ (q : Int) := by omega
          have h2 : (q : Int) < 64 := by omega
          have e1 : min q 64 = q := by omega
          have HT : Hid (leTo (s.length * 8) (j + 1) = leTo (s.length * 8) j ++ [UInt8.ofNat (s.length * 8 / 2 ^ q)]) := Lib.hid (by rw [HQ.out]; rfl)
          have HLL := Lib.hid (show L + j + 1 ≤ 1099511627776 by have := HN.out; have := HL.out; have := HZ.out; omega)
          go_wp2_with ((with_reducible refine (?_ : wpList _ _ _ (Oper.mk (some 44) _ _ _ _ _ :: _) _ _)); go_loud (refine wpList_append_buf rfl (.tmp 38) (.tmp 43) 26 rfl _ _ _ _ _ [UInt8.ofNat (s.length * 8 / 2 ^ q)] _ rfl (hB.alloc _) rfl (src_byte ((new_cell _ _ _).trans (congrArg some (byte_ofQ _ _)))) HLL.out (by simp <;> omega) ?_); intro A' c' w' hB' hg')
          go_roundw
          case rel =>
            refine ⟨j + 1, A', c', q + 8, by omega, by show _ = _; have := HQ.out; omega, by go_num, rfl, ?_, below_own (hb.alloc hbz _) (hB.alloc _) hg' (by omega) (by simp <;> omega)⟩
            rw [HT.out, ← List.append_assoc]
            exact hB'
          case measure => simp [intOf]; omega
        · have hj8 : j = 8 := by omega
          have HJ := Lib.hid hj8
          have hd : decide ((q : Int) < 64) = false := by have := HQ.out; simp; omega
          clear hj8 hj hlt
          go_wp2_with fail
          obtain ⟨T, hT⟩ : ∃ T, T = M ++ leTo (s.length * 8) j := ⟨_, rfl⟩
          rw [← hT] at hB
          rw [HJ.out, HM.out, pad_partsQ s k HZ.out] at hT
          have HT := Lib.hid hT
          obtain ⟨J, hJ⟩ : ∃ J, J = T.length / 64 := ⟨_, rfl⟩
          have hTJ : T.length = 64 * J := by rw [hJ, hT, pad_blocksQ]
          have HJJ := Lib.hid hJ
          have hnT := hB.len
          obtain ⟨n, hn⟩ : ∃ n, n = L + j := ⟨_, rfl⟩
          rw [← hn] at hB hnT ⊢
          have HN8 := Lib.hid (show n = 64 * J by omega)
          have hpos : 0 < n := by have := HL.out; omega
          have HNS := Lib.hid (show n < 1099511627776 by have := HN.out; have := HZ.out; have := HL.out; have := HJ.out; omega)
          clear hT hJ hTJ hn hd HQ
          refine (sines_any _).mono ?_
          rintro e w6 ⟨rfl, hb6⟩
          obtain ⟨kv, hkv⟩ : ∃ kv, kv = sineTab.map U32 := ⟨_, rfl⟩
          rw [← hkv]
          replace hkv := Lib.hid hkv
          have hz6 := hb6.size
          go_wp2_with (first
            | ((with_reducible refine (?_ : wpList _ _ _ (Oper.mk none (.store 118 _ _) _ _ _ _ :: _) _ _)); go_loud (refine wpList_store_blk rfl 118 (.tmp 6) (.tmp 45) rfl rfl w6.heap.size kv rfl rfl 118 (List.replicate 64 (.int .u32 0)) (Blk.new_of w6 _ _ _ (by rfl)) (by rw [hkv.out]; exact info64r) (by rw [hkv.out]; rfl) (by rw [hkv.out]; exact one32 _) ?_); intro w7 hK hg7; have hz7 : w6.heap.size < w7.heap.size := hK.lt; have hb7 := below_new (hb6.alloc (by omega) _) hg7 (by omega) (by simp <;> omega); clear hg7)
            | ((with_reducible refine (?_ : wpList _ _ _ (Oper.mk none (.store 120 _ _) _ _ _ _ :: _) _ _)); go_loud (refine wpList_store_blk rfl 120 (.tmp 7) (.tmp 46) rfl rfl w7.heap.size firstQ.vals rfl (by kernel_rfl) 120 (List.replicate 4 (.int .u32 0)) (Blk.new_of w7 _ _ _ (by rfl)) (info43 _) (by rfl) (qd_one4 _) ?_); intro w8 hH hg8; have hz8 : w7.heap.size < w8.heap.size := hH.lt; have hK8 := (hK.alloc _).grown hg8 (by simp; omega); have hb8 := below_new (hb7.alloc (by omega) _) hg8 (by omega) (by simp <;> omega); clear hg8 hK hb7))
          have hgo := hB.at hpos
          replace hB := hB.below hb8
          replace hb := hb.trans (hb8.mono hb.size)
          obtain ⟨gb, rfl, hgb, hgl0, _⟩ := hgo
          obtain ⟨gb', he, _, hgl, hby⟩ := hB.at hpos
          obtain rfl : gb = gb' := by injection he with he; injection he
          have hTn : T.length = n := hnT
          have hK2 : Blk w8 w6.heap.size 118 (sineTab.map U32) := by rw [← hkv.out]; exact hK8
          clear hB hK8 hb8 hb6
          refine blockLoopQ w7.heap.size w6.heap.size gb n c J T _ _ HNS.out HN8 hTn hby (fun i hi => hK2.at32 i hi) hH (by omega) (by omega) (by omega) (by omega) ?_
          intro wz
          intros
          rename_i hH3 hgz
          have hbz2 := below_new hb hgz (by omega) hb.size
          clear hH hK2 hby hgz hb
          go_wp2
          refine outLoopQ w7.heap.size (foldQ J firstQ T) _ _ hH3 ?_
          intro wy
          intros
          rename_i A9 c9 hv9 hB9 hb9
          subst hv9
          have hby := hbz2.trans (hb9.mono hbz2.size)
          have hs9 : Src wy wy.heap.size A9 (bytesQ (foldQ J firstQ T)) := hB9.src (fun k e => by have := (hB9.lt e).2; omega)
          have HF : Hid (bytesQ (foldQ J firstQ T) = md5 s) := by
            show _ = _
            rw [HJJ.out, HT.out]; rfl
          clear hB9 hb9 hbz2 hH3
          go_wp2_with (with_reducible refine (?_ : wpList _ _ _ (Oper.mk (some 225) _ _ _ _ _ :: _) _ _); go_loud (refine wpList_string_of rfl (.tmp 224) rfl (bytesQ (foldQ J firstQ T)) A9 c9 _ rfl hs9 ?_); rw [HF.out])
          go_ret
          exact ⟨rfl, hby⟩

end
end Go.Proofs.YtbomckbekcaemaaDoor
