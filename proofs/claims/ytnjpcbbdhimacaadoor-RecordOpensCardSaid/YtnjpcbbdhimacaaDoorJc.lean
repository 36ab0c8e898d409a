/-
 Joined: Ref, RefMath, RefRegs, RefLoops, RefBlock, RefOut, RefSum.
-/
import Derived.Test.YtnjpcbbdhimacaaDoorJb
import Derived.Test.YtnjpcbbdhimacaaDoorJa
import Derived.Test.YtnjpcbbdhimacaaDoorJf
import Derived.BigQuiet
import Derived.Deep.RegionWith
import Derived.BigRegion
import Derived.IntWalk
import Derived.StillTailTactics
namespace Go.Proofs.YtnjpcbbdhimacaaDoor
section
open Go.RowKit
theorem info63r : (Tryd.prog.info? 127).map (·.size) = some first.vals.length := by kernel_rfl
theorem info64s : (Tryd.prog.info? 148).map (·.size) = some (kTab.map U32).length := by kernel_rfl
theorem one63r : first.vals.toArray.all (·.oneCell') = true := by decide +kernel

set_option maxRecDepth 100000 in
set_option maxHeartbeats 1000000 in
theorem constants_any (w : World) :
  Calls Tryd.prog 95 #[] w fun e w' => e = .returned (.tuple #[.agg first.vals.toArray, .agg (kTab.map U32).toArray]) ∧ Below w.heap.size w w' := by
 go_enter Tryd.func95, Tryd.ntmps95
 go_wp2_with (first
  | ((with_reducible refine (?_ : wpList _ _ _ (Oper.mk none (.store 127 _ _) _ _ _ _ :: _) _ _)); go_loud (refine wpList_store_blk rfl 127 (.tmp 0) (.tmp 2) rfl rfl w.heap.size first.vals rfl (by kernel_rfl) 127 (List.replicate 8 (.int .u32 0)) ((Blk.new_of w 127 _ (List.replicate 8 (.int .u32 0)) (by rfl)).alloc _) info63r (by rfl) one63r ?_); intro w1 hA hg1; have hB1 := (Blk.new2_of w _ 148 _ (List.replicate 64 (.int .u32 0)) (by rfl)).grown hg1 (by simp); have hb1 := below_new (((Below.refl w.heap.size w).alloc (Nat.le_refl _) _).alloc (by simp) _) hg1 (Nat.le_refl _) (by simp <;> omega); clear hg1)
  | ((with_reducible refine (?_ : wpList _ _ _ (Oper.mk none (.store 148 _ _) _ _ _ _ :: _) _ _)); go_loud (refine wpList_store_blk rfl 148 (.tmp 1) (.tmp 3) rfl rfl (w.heap.size + 1) (kTab.map U32) rfl (by kernel_rfl) 148 (List.replicate 64 (.int .u32 0)) hB1 info64s (by kernel_rfl) (one32 _) ?_); intro w2 hB hg2; have hA2 := hA.grown hg2 (by simp); have hb2 := below_new hb1 hg2 (by omega) hb1.size; clear hg2))
 refine bodyPost_ret (results_two rfl _ _ w.heap.size (w.heap.size + 1) 0 0 first.vals (kTab.map U32) _ _ rfl rfl (rangeAt_of_blk hA2) (rangeAt_of_blk hB) Tryd.underlying127 rfl info63r Tryd.underlying148 rfl info64s) rfl ⟨rfl, hb2⟩

end
section
open Go.RowKit
/-- Block number b of a text. -/
def blkAt (T : List UInt8) (b : Nat) : List UInt8 := (T.drop (64 * b)).take 64
theorem foldB_succ (n : Nat) : ∀ (s : St) (m : List UInt8), foldB (n + 1) s m = comp (foldB n s m) (blkAt m n) := by
 induction n with
 | zero => intro s m; simp [foldB, blkAt]
 | succ n ih =>
  intro s m
  show foldB (n + 1) (comp s (m.take 64)) (m.drop 64) = comp (foldB n (comp s (m.take 64)) (m.drop 64)) (blkAt m (n + 1))
  rw [ih]
  unfold blkAt
  rw [List.drop_drop, show 64 * (n + 1) = 64 + 64 * n by omega]
theorem blkAt_length (T : List UInt8) (b : Nat) (h : 64 * b + 64 ≤ T.length) : (blkAt T b).length = 64 := by
 unfold blkAt; rw [List.length_take, List.length_drop]; omega
theorem Bytes.blk {w : World} {g : Nat} {T : List UInt8} (h : Bytes w g 0 T) (b p i : Nat) (hp : p = 64 * b) (hi : i < 64) (hl : p + 64 ≤ T.length) : w.cell? ⟨g, p + i, none⟩ = some (.int .u8 ((blkAt T b).getD i 0).toNat) := by
 have := h (p + i) (by omega)
 rw [Nat.zero_add] at this
 rw [this]
 unfold blkAt
 subst hp
 simp [List.getD_eq_getElem?_getD, hi, List.getElem?_drop]
/-- Words added to words, i of them. -/
def addL (hs qs : List UInt32) : Nat → List UInt32
 | 0 => hs
 | i + 1 => (addL hs qs i).set i (hs.getD i 0 + qs.getD i 0)
theorem addL_length (hs qs : List UInt32) (i : Nat) : (addL hs qs i).length = hs.length := by
 induction i with
 | zero => rfl
 | succ i ih => simp [addL, ih]
theorem addL_ge (hs qs : List UInt32) (i : Nat) : ∀ j, i ≤ j → (addL hs qs i).getD j 0 = hs.getD j 0 := by
 induction i with
 | zero => intro j _; rfl
 | succ i ih =>
  intro j hj
  have := ih j (by omega)
  rw [addL, List.getD_eq_getElem?_getD, List.getElem?_set_ne (by omega), ← List.getD_eq_getElem?_getD, this]
theorem addL_all (s t : St) : addL s.words t.words 8 = (addSt s t).words := by
 simp [addL, St.words, addSt]
theorem vals_words (s : St) : s.vals = s.words.map U32 := rfl
/-- The text of a sum with what stands behind it: whole blocks. -/
theorem pad_blocks (m : List UInt8) : 64 * ((m ++ padB m.length).length / 64) = (m ++ padB m.length).length := by
 rw [List.length_append, padB_length]; omega
theorem sha_fold (m : List UInt8) : sha m = bytesOf (foldB ((m ++ padB m.length).length / 64) first (m ++ padB m.length)) := rfl
theorem pad_parts (s : List UInt8) (z : Nat) (hz : z = (119 - s.length % 64) % 64) : (s ++ [128] ++ List.replicate z 0) ++ be8 (s.length * 8) = s ++ padB s.length := by
 unfold padB
 rw [← hz]; simp

end
section
open Go.RowKit Go.BigFrame
/-- The region of that number in a code. -/
def regionOf (id : Nat) : Code → Option Code
 | .region i ops d => if i = id then some (.region i ops d) else none
 | .seq a b => match regionOf id a with
  | some c => some c
  | none => regionOf id b
 | .block _ c => regionOf id c
 | .loop c => regionOf id c
 | .scope c => regionOf id c
 | .cond _ a b => match regionOf id a with
  | some c => some c
  | none => regionOf id b
 | _ => none
theorem turn_at (x : UInt32) (c : Int) (n : Nat) (w : World) (hc : c = (n : Int)) (hn0 : 0 < n) (hn : n < 32) :
  Calls Tryd.prog 96 #[.int .u32 x.toNat, .int .i64 c] w fun e w' => e = .returned (.int .u32 (rotr n x).toNat) ∧ ∃ k, w' = w.drewN k := by
 subst hc
 exact turn_any x n w hn0 hn
theorem turn_7 (x : UInt32) (w : World) :
 Calls Tryd.prog 96 #[.int .u32 x.toNat, .int .i64 7] w fun e w' => e = .returned (.int .u32 (rotr 7 x).toNat) ∧ ∃ k, w' = w.drewN k := turn_at x 7 7 w rfl (by decide) (by decide)
theorem turn_18 (x : UInt32) (w : World) :
 Calls Tryd.prog 96 #[.int .u32 x.toNat, .int .i64 18] w fun e w' => e = .returned (.int .u32 (rotr 18 x).toNat) ∧ ∃ k, w' = w.drewN k := turn_at x 18 18 w rfl (by decide) (by decide)
theorem turn_17 (x : UInt32) (w : World) :
 Calls Tryd.prog 96 #[.int .u32 x.toNat, .int .i64 17] w fun e w' => e = .returned (.int .u32 (rotr 17 x).toNat) ∧ ∃ k, w' = w.drewN k := turn_at x 17 17 w rfl (by decide) (by decide)
theorem turn_19 (x : UInt32) (w : World) :
 Calls Tryd.prog 96 #[.int .u32 x.toNat, .int .i64 19] w fun e w' => e = .returned (.int .u32 (rotr 19 x).toNat) ∧ ∃ k, w' = w.drewN k := turn_at x 19 19 w rfl (by decide) (by decide)
theorem turn_6 (x : UInt32) (w : World) :
 Calls Tryd.prog 96 #[.int .u32 x.toNat, .int .i64 6] w fun e w' => e = .returned (.int .u32 (rotr 6 x).toNat) ∧ ∃ k, w' = w.drewN k := turn_at x 6 6 w rfl (by decide) (by decide)
theorem turn_11 (x : UInt32) (w : World) :
 Calls Tryd.prog 96 #[.int .u32 x.toNat, .int .i64 11] w fun e w' => e = .returned (.int .u32 (rotr 11 x).toNat) ∧ ∃ k, w' = w.drewN k := turn_at x 11 11 w rfl (by decide) (by decide)
theorem turn_25 (x : UInt32) (w : World) :
 Calls Tryd.prog 96 #[.int .u32 x.toNat, .int .i64 25] w fun e w' => e = .returned (.int .u32 (rotr 25 x).toNat) ∧ ∃ k, w' = w.drewN k := turn_at x 25 25 w rfl (by decide) (by decide)
theorem turn_2 (x : UInt32) (w : World) :
 Calls Tryd.prog 96 #[.int .u32 x.toNat, .int .i64 2] w fun e w' => e = .returned (.int .u32 (rotr 2 x).toNat) ∧ ∃ k, w' = w.drewN k := turn_at x 2 2 w rfl (by decide) (by decide)
theorem turn_13 (x : UInt32) (w : World) :
 Calls Tryd.prog 96 #[.int .u32 x.toNat, .int .i64 13] w fun e w' => e = .returned (.int .u32 (rotr 13 x).toNat) ∧ ∃ k, w' = w.drewN k := turn_at x 13 13 w rfl (by decide) (by decide)
theorem turn_22 (x : UInt32) (w : World) :
 Calls Tryd.prog 96 #[.int .u32 x.toNat, .int .i64 22] w fun e w' => e = .returned (.int .u32 (rotr 22 x).toNat) ∧ ∃ k, w' = w.drewN k := turn_at x 22 22 w rfl (by decide) (by decide)
noncomputable def code20 : Code := ((Tryd.f86.body.bind (regionOf 20)).getD .skip)
set_option maxRecDepth 1000000 in
set_option maxHeartbeats 4000000 in
theorem reg20 {t0 t1 t2 t3 t4 t5 t6 t7 t8 t11 t12 t13 t14 t15 t16 t17 t18 t19 t20 t21 t22 t23 t24 t25 t26 t27 t28 t29 t30 t31 t32 t33 t34 t35 t36 t37 t38 t39 t40 t41 t42 t43 t44 t45 t46 t47 t48 t49 t50 t51 t52 t53 t54 t55 t56 t57 t58 t59 t60 t61 t62 t63 t64 t65 t66 t67 t68 t69 t70 t71 t72 t73 t74 t75 t76 t77 t78 t79 t80 t81 t82 t83 t84 t85 t86 t87 t88 t89 t90 t91 t92 t93 t94 t95 t96 t97 t98 t99 t100 t101 t102 t103 t104 t105 t106 t107 t108 t109 t110 t111 t112 t113 t114 t115 t116 t117 t118 t119 t120 t121 t122 t123 t124 t125 t126 t127 t128 t129 t130 t131 t132 t133 t134 t135 t136 t137 t138 t139 t140 t141 t142 t143 t144 t145 t146 t147 t148 t149 t150 t151 t152 t153 t154 t155 t156 t157 t158 t159 t160 t161 t162 t163 t164 t165 t166 t167 t168 t169 t170 t171 t172 t173 t174 t175 t176 t177 t178 t179 t180 t181 t182 t183 t184 t185 t186 t187 t188 t189 t190 t191 t192 t193 t194 t195 t196 t197 t198 t199 t200 t201 t202 t203 t204 t205 t206 t207 t208 t209 t210 t211 t212 t213 t214 t215 t216 t217 t218 t219 t220 t221 t222 t223 t224 t225 t226 t227 t228 t229 t230 t231 t232 t233 t234 t235 t236 t237 t238 t239 t240 t241 t242 t243 t244 t245 t246 t247 t248 t249 t250 t251 t252 t253 t254 t255 t256 t257 t258 t259 t260 : Value} (G9 k : Nat) (x y : UInt32) (wr : World) (Q : Exit → Act → World → Prop) (hk : 16 ≤ k) (hk2 : k < 64) (c15 : wr.cell? ⟨G9, k - 15, none⟩ = some (.int .u32 x.toNat)) (c2 : wr.cell? ⟨G9, k - 2, none⟩ = some (.int .u32 y.toNat))
  (h : ∀ (nq : Nat) (u100 u101 u102 u103 u104 u105 u106 u107 : Value), Q .normal ⟨(t0 :: t1 :: t2 :: t3 :: t4 :: t5 :: t6 :: t7 :: t8 :: .pointer (some ⟨G9, 0, none⟩) :: .int .i64 (k : Int) :: t11 :: .int .u32 x.toNat :: .int .u32 y.toNat :: t14 :: t15 :: t16 :: t17 :: t18 :: t19 :: t20 :: t21 :: t22 :: t23 :: t24 :: t25 :: t26 :: t27 :: t28 :: t29 :: t30 :: t31 :: t32 :: t33 :: t34 :: t35 :: t36 :: t37 :: t38 :: t39 :: t40 :: t41 :: t42 :: t43 :: t44 :: t45 :: t46 :: t47 :: t48 :: t49 :: t50 :: t51 :: t52 :: t53 :: t54 :: t55 :: t56 :: t57 :: t58 :: t59 :: t60 :: t61 :: t62 :: t63 :: t64 :: t65 :: t66 :: t67 :: t68 :: t69 :: t70 :: t71 :: t72 :: t73 :: t74 :: t75 :: t76 :: t77 :: t78 :: t79 :: t80 :: t81 :: t82 :: t83 :: t84 :: t85 :: t86 :: t87 :: t88 :: t89 :: t90 :: t91 :: t92 :: t93 :: t94 :: t95 :: t96 :: t97 :: t98 :: t99 :: u100 :: u101 :: u102 :: u103 :: u104 :: u105 :: u106 :: u107 :: t108 :: t109 :: t110 :: t111 :: t112 :: t113 :: t114 :: t115 :: t116 :: t117 :: t118 :: t119 :: t120 :: t121 :: t122 :: t123 :: t124 :: t125 :: t126 :: t127 :: t128 :: t129 :: t130 :: t131 :: t132 :: t133 :: t134 :: t135 :: t136 :: t137 :: t138 :: t139 :: t140 :: t141 :: t142 :: t143 :: t144 :: t145 :: t146 :: t147 :: t148 :: t149 :: t150 :: t151 :: t152 :: t153 :: t154 :: t155 :: t156 :: t157 :: t158 :: t159 :: t160 :: t161 :: t162 :: t163 :: t164 :: t165 :: t166 :: t167 :: t168 :: t169 :: t170 :: t171 :: t172 :: t173 :: t174 :: t175 :: t176 :: t177 :: t178 :: t179 :: t180 :: t181 :: t182 :: t183 :: t184 :: t185 :: t186 :: t187 :: t188 :: t189 :: t190 :: t191 :: t192 :: t193 :: t194 :: t195 :: t196 :: t197 :: t198 :: t199 :: t200 :: t201 :: t202 :: t203 :: t204 :: t205 :: t206 :: t207 :: t208 :: t209 :: t210 :: t211 :: t212 :: t213 :: t214 :: t215 :: t216 :: t217 :: t218 :: t219 :: t220 :: t221 :: t222 :: t223 :: t224 :: t225 :: t226 :: t227 :: t228 :: t229 :: t230 :: t231 :: t232 :: t233 :: t234 :: t235 :: t236 :: t237 :: t238 :: t239 :: t240 :: t241 :: t242 :: t243 :: t244 :: t245 :: t246 :: t247 :: t248 :: t249 :: t250 :: t251 :: t252 :: t253 :: t254 :: t255 :: t256 :: t257 :: t258 :: t259 :: t260 :: []).toArray, []⟩ (wr.drewN nq)) :
  code20.wp Tryd.prog Q ⟨(t0 :: t1 :: t2 :: t3 :: t4 :: t5 :: t6 :: t7 :: t8 :: .pointer (some ⟨G9, 0, none⟩) :: .int .i64 (k : Int) :: t11 :: t12 :: t13 :: t14 :: t15 :: t16 :: t17 :: t18 :: t19 :: t20 :: t21 :: t22 :: t23 :: t24 :: t25 :: t26 :: t27 :: t28 :: t29 :: t30 :: t31 :: t32 :: t33 :: t34 :: t35 :: t36 :: t37 :: t38 :: t39 :: t40 :: t41 :: t42 :: t43 :: t44 :: t45 :: t46 :: t47 :: t48 :: t49 :: t50 :: t51 :: t52 :: t53 :: t54 :: t55 :: t56 :: t57 :: t58 :: t59 :: t60 :: t61 :: t62 :: t63 :: t64 :: t65 :: t66 :: t67 :: t68 :: t69 :: t70 :: t71 :: t72 :: t73 :: t74 :: t75 :: t76 :: t77 :: t78 :: t79 :: t80 :: t81 :: t82 :: t83 :: t84 :: t85 :: t86 :: t87 :: t88 :: t89 :: t90 :: t91 :: t92 :: t93 :: t94 :: t95 :: t96 :: t97 :: t98 :: t99 :: t100 :: t101 :: t102 :: t103 :: t104 :: t105 :: t106 :: t107 :: t108 :: t109 :: t110 :: t111 :: t112 :: t113 :: t114 :: t115 :: t116 :: t117 :: t118 :: t119 :: t120 :: t121 :: t122 :: t123 :: t124 :: t125 :: t126 :: t127 :: t128 :: t129 :: t130 :: t131 :: t132 :: t133 :: t134 :: t135 :: t136 :: t137 :: t138 :: t139 :: t140 :: t141 :: t142 :: t143 :: t144 :: t145 :: t146 :: t147 :: t148 :: t149 :: t150 :: t151 :: t152 :: t153 :: t154 :: t155 :: t156 :: t157 :: t158 :: t159 :: t160 :: t161 :: t162 :: t163 :: t164 :: t165 :: t166 :: t167 :: t168 :: t169 :: t170 :: t171 :: t172 :: t173 :: t174 :: t175 :: t176 :: t177 :: t178 :: t179 :: t180 :: t181 :: t182 :: t183 :: t184 :: t185 :: t186 :: t187 :: t188 :: t189 :: t190 :: t191 :: t192 :: t193 :: t194 :: t195 :: t196 :: t197 :: t198 :: t199 :: t200 :: t201 :: t202 :: t203 :: t204 :: t205 :: t206 :: t207 :: t208 :: t209 :: t210 :: t211 :: t212 :: t213 :: t214 :: t215 :: t216 :: t217 :: t218 :: t219 :: t220 :: t221 :: t222 :: t223 :: t224 :: t225 :: t226 :: t227 :: t228 :: t229 :: t230 :: t231 :: t232 :: t233 :: t234 :: t235 :: t236 :: t237 :: t238 :: t239 :: t240 :: t241 :: t242 :: t243 :: t244 :: t245 :: t246 :: t247 :: t248 :: t249 :: t250 :: t251 :: t252 :: t253 :: t254 :: t255 :: t256 :: t257 :: t258 :: t259 :: t260 :: []).toArray, []⟩ wr := by
 conv => arg 2; whnf
 have a1 : IntKind.i64.wrap ((k : Int) - 15) = (k : Int) - 15 := IntWalk.i64_in _ (by omega)
 have a2 : IntKind.i64.wrap ((k : Int) - 2) = (k : Int) - 2 := IntWalk.i64_in _ (by omega)
 have a3 : (0 : Int) ≤ (k : Int) - 15 := by omega
 have a4 : (k : Int) - 15 < 64 := by omega
 have a5 : (0 : Int) ≤ (k : Int) - 2 := by omega
 have a6 : (k : Int) - 2 < 64 := by omega
 have a7 : ((k : Int) - 15).toNat = k - 15 := by omega
 have a8 : ((k : Int) - 2).toNat = k - 2 := by omega
 have b1 : (15 : Int) ≤ (k : Int) := by omega
 have b2 : (2 : Int) ≤ (k : Int) := by omega
 go_big_quiet (fail)
 exact h nq _ _ _ _ _ _ _ _

noncomputable def code19 : Code := ((Tryd.f86.body.bind (regionOf 19)).getD .skip)
set_option maxRecDepth 1000000 in
set_option maxHeartbeats 4000000 in
theorem reg19 {t0 t1 t2 t3 t4 t6 t7 t8 t12 t13 t14 t15 t16 t17 t18 t19 t20 t21 t22 t23 t24 t25 t26 t27 t28 t29 t30 t31 t32 t33 t34 t35 t36 t37 t38 t39 t40 t41 t42 t43 t44 t45 t46 t47 t48 t49 t50 t51 t52 t53 t54 t55 t56 t57 t58 t59 t60 t61 t62 t63 t64 t65 t66 t67 t68 t69 t70 t71 t72 t73 t74 t75 t76 t77 t78 t79 t80 t81 t82 t83 t84 t85 t86 t87 t88 t89 t90 t91 t92 t93 t94 t95 t96 t97 t98 t99 t100 t101 t102 t103 t104 t105 t106 t107 t108 t109 t110 t111 t112 t113 t114 t115 t116 t117 t118 t119 t120 t121 t122 t123 t124 t125 t126 t127 t128 t129 t130 t131 t132 t133 t134 t135 t136 t137 t138 t139 t140 t141 t142 t143 t144 t145 t146 t147 t148 t149 t150 t151 t152 t153 t154 t155 t156 t157 t158 t159 t160 t161 t162 t163 t164 t165 t166 t167 t168 t169 t170 t171 t172 t173 t174 t175 t176 t177 t178 t179 t180 t181 t182 t183 t184 t185 t186 t187 t188 t189 t190 t191 t192 t193 t194 t195 t196 t197 t198 t199 t200 t201 t202 t203 t204 t205 t206 t207 t208 t209 t210 t211 t212 t213 t214 t215 t216 t217 t218 t219 t220 t221 t222 t223 t224 t225 t226 t227 t228 t229 t230 t231 t232 t233 t234 t235 t236 t237 t238 t239 t240 t241 t242 t243 t244 t245 t246 t247 t248 t249 t250 t251 t252 t253 t254 t255 t256 t257 t258 t259 t260 : Value} (gb G9 n c k x : Nat) (b0 b1 b2 b3 : UInt8) (v : Value) (wr : World) (Q : Exit → Act → World → Prop) (hk : k < 64) (hx : x + 3 < n) (hn : n < 1099511627776) (c0 : wr.cell? ⟨gb, x, none⟩ = some (.int .u8 b0.toNat)) (c1 : wr.cell? ⟨gb, x + 1, none⟩ = some (.int .u8 b1.toNat)) (c2 : wr.cell? ⟨gb, x + 2, none⟩ = some (.int .u8 b2.toNat)) (c3 : wr.cell? ⟨gb, x + 3, none⟩ = some (.int .u8 b3.toNat)) (cw : wr.cell? ⟨G9, k, none⟩ = some v) (cf : wr.frozen? ⟨G9, k, none⟩ = false)
  (h : ∀ (nq : Nat) (u69 u70 u71 u72 u73 u74 u75 u76 u77 u78 u79 u80 u81 u82 u83 u84 u85 u86 u87 u88 u89 u90 u91 u92 u93 u94 u95 u96 u97 u98 u99 : Value), Q .normal ⟨(t0 :: t1 :: t2 :: t3 :: t4 :: .slice (some ⟨gb, 0, none⟩) n c :: t6 :: t7 :: t8 :: .pointer (some ⟨G9, 0, none⟩) :: .int .i64 (k : Int) :: .int .i64 (x : Int) :: t12 :: t13 :: t14 :: t15 :: t16 :: t17 :: t18 :: t19 :: t20 :: t21 :: t22 :: t23 :: t24 :: t25 :: t26 :: t27 :: t28 :: t29 :: t30 :: t31 :: t32 :: t33 :: t34 :: t35 :: t36 :: t37 :: t38 :: t39 :: t40 :: t41 :: t42 :: t43 :: t44 :: t45 :: t46 :: t47 :: t48 :: t49 :: t50 :: t51 :: t52 :: t53 :: t54 :: t55 :: t56 :: t57 :: t58 :: t59 :: t60 :: t61 :: t62 :: t63 :: t64 :: t65 :: t66 :: t67 :: t68 :: u69 :: u70 :: u71 :: u72 :: u73 :: u74 :: u75 :: u76 :: u77 :: u78 :: u79 :: u80 :: u81 :: u82 :: u83 :: u84 :: u85 :: u86 :: u87 :: u88 :: u89 :: u90 :: u91 :: u92 :: u93 :: u94 :: u95 :: u96 :: u97 :: u98 :: u99 :: t100 :: t101 :: t102 :: t103 :: t104 :: t105 :: t106 :: t107 :: t108 :: t109 :: t110 :: t111 :: t112 :: t113 :: t114 :: t115 :: t116 :: t117 :: t118 :: t119 :: t120 :: t121 :: t122 :: t123 :: t124 :: t125 :: t126 :: t127 :: t128 :: t129 :: t130 :: t131 :: t132 :: t133 :: t134 :: t135 :: t136 :: t137 :: t138 :: t139 :: t140 :: t141 :: t142 :: t143 :: t144 :: t145 :: t146 :: t147 :: t148 :: t149 :: t150 :: t151 :: t152 :: t153 :: t154 :: t155 :: t156 :: t157 :: t158 :: t159 :: t160 :: t161 :: t162 :: t163 :: t164 :: t165 :: t166 :: t167 :: t168 :: t169 :: t170 :: t171 :: t172 :: t173 :: t174 :: t175 :: t176 :: t177 :: t178 :: t179 :: t180 :: t181 :: t182 :: t183 :: t184 :: t185 :: t186 :: t187 :: t188 :: t189 :: t190 :: t191 :: t192 :: t193 :: t194 :: t195 :: t196 :: t197 :: t198 :: t199 :: t200 :: t201 :: t202 :: t203 :: t204 :: t205 :: t206 :: t207 :: t208 :: t209 :: t210 :: t211 :: t212 :: t213 :: t214 :: t215 :: t216 :: t217 :: t218 :: t219 :: t220 :: t221 :: t222 :: t223 :: t224 :: t225 :: t226 :: t227 :: t228 :: t229 :: t230 :: t231 :: t232 :: t233 :: t234 :: t235 :: t236 :: t237 :: t238 :: t239 :: t240 :: t241 :: t242 :: t243 :: t244 :: t245 :: t246 :: t247 :: t248 :: t249 :: t250 :: t251 :: t252 :: t253 :: t254 :: t255 :: t256 :: t257 :: t258 :: t259 :: t260 :: []).toArray, []⟩ ((wr.drewN nq).setCell ⟨G9, k, none⟩ (U32 ((b0.toUInt32 <<< 24) ||| (b1.toUInt32 <<< 16) ||| (b2.toUInt32 <<< 8) ||| b3.toUInt32)))) :
  code19.wp Tryd.prog Q ⟨(t0 :: t1 :: t2 :: t3 :: t4 :: .slice (some ⟨gb, 0, none⟩) n c :: t6 :: t7 :: t8 :: .pointer (some ⟨G9, 0, none⟩) :: .int .i64 (k : Int) :: .int .i64 (x : Int) :: t12 :: t13 :: t14 :: t15 :: t16 :: t17 :: t18 :: t19 :: t20 :: t21 :: t22 :: t23 :: t24 :: t25 :: t26 :: t27 :: t28 :: t29 :: t30 :: t31 :: t32 :: t33 :: t34 :: t35 :: t36 :: t37 :: t38 :: t39 :: t40 :: t41 :: t42 :: t43 :: t44 :: t45 :: t46 :: t47 :: t48 :: t49 :: t50 :: t51 :: t52 :: t53 :: t54 :: t55 :: t56 :: t57 :: t58 :: t59 :: t60 :: t61 :: t62 :: t63 :: t64 :: t65 :: t66 :: t67 :: t68 :: t69 :: t70 :: t71 :: t72 :: t73 :: t74 :: t75 :: t76 :: t77 :: t78 :: t79 :: t80 :: t81 :: t82 :: t83 :: t84 :: t85 :: t86 :: t87 :: t88 :: t89 :: t90 :: t91 :: t92 :: t93 :: t94 :: t95 :: t96 :: t97 :: t98 :: t99 :: t100 :: t101 :: t102 :: t103 :: t104 :: t105 :: t106 :: t107 :: t108 :: t109 :: t110 :: t111 :: t112 :: t113 :: t114 :: t115 :: t116 :: t117 :: t118 :: t119 :: t120 :: t121 :: t122 :: t123 :: t124 :: t125 :: t126 :: t127 :: t128 :: t129 :: t130 :: t131 :: t132 :: t133 :: t134 :: t135 :: t136 :: t137 :: t138 :: t139 :: t140 :: t141 :: t142 :: t143 :: t144 :: t145 :: t146 :: t147 :: t148 :: t149 :: t150 :: t151 :: t152 :: t153 :: t154 :: t155 :: t156 :: t157 :: t158 :: t159 :: t160 :: t161 :: t162 :: t163 :: t164 :: t165 :: t166 :: t167 :: t168 :: t169 :: t170 :: t171 :: t172 :: t173 :: t174 :: t175 :: t176 :: t177 :: t178 :: t179 :: t180 :: t181 :: t182 :: t183 :: t184 :: t185 :: t186 :: t187 :: t188 :: t189 :: t190 :: t191 :: t192 :: t193 :: t194 :: t195 :: t196 :: t197 :: t198 :: t199 :: t200 :: t201 :: t202 :: t203 :: t204 :: t205 :: t206 :: t207 :: t208 :: t209 :: t210 :: t211 :: t212 :: t213 :: t214 :: t215 :: t216 :: t217 :: t218 :: t219 :: t220 :: t221 :: t222 :: t223 :: t224 :: t225 :: t226 :: t227 :: t228 :: t229 :: t230 :: t231 :: t232 :: t233 :: t234 :: t235 :: t236 :: t237 :: t238 :: t239 :: t240 :: t241 :: t242 :: t243 :: t244 :: t245 :: t246 :: t247 :: t248 :: t249 :: t250 :: t251 :: t252 :: t253 :: t254 :: t255 :: t256 :: t257 :: t258 :: t259 :: t260 :: []).toArray, []⟩ wr := by
 conv => arg 2; whnf
 have d0 : (x : Int) < (n : Int) := by omega
 have d1 : (x : Int) + 1 < (n : Int) := by omega
 have d2 : (x : Int) + 2 < (n : Int) := by omega
 have d3 : (x : Int) + 3 < (n : Int) := by omega
 have e1 : x + 1 < n := by omega
 have e2 : x + 2 < n := by omega
 refine wp_region_quiet_tail 31 (by kernel_rfl) (by kernel_rfl) ?_
 simp only [List.take_succ_cons, List.take_zero, List.drop_succ_cons, List.drop_zero]
 repeat (go_big_quiet_step (fail))
 refine wpQuiet_nil ?_
 intro nq
 go_wp2
 rw [be_eq]
 exact h nq _ _ _ _ _ _ _ _ _ _ _ _ _ _ _ _ _ _ _ _ _ _ _ _ _ _ _ _ _ _ _

noncomputable def code21 : Code := ((Tryd.f86.body.bind (regionOf 21)).getD .skip)
set_option maxRecDepth 1000000 in
set_option maxHeartbeats 4000000 in
theorem reg21 {t0 t1 t2 t3 t4 t5 t6 t7 t8 t11 t14 t15 t16 t17 t18 t19 t20 t21 t22 t23 t24 t25 t26 t27 t28 t29 t30 t31 t32 t33 t34 t35 t36 t37 t38 t39 t40 t41 t42 t43 t44 t45 t46 t47 t48 t49 t50 t51 t52 t53 t54 t55 t56 t57 t58 t59 t60 t61 t62 t63 t64 t65 t66 t67 t68 t69 t70 t71 t72 t73 t74 t75 t76 t77 t78 t79 t80 t81 t82 t83 t84 t85 t86 t87 t88 t89 t90 t91 t92 t93 t94 t95 t96 t97 t98 t99 t100 t101 t102 t103 t104 t105 t106 t107 t108 t109 t110 t111 t112 t113 t114 t115 t116 t117 t118 t119 t120 t121 t122 t123 t124 t125 t126 t127 t128 t129 t130 t131 t132 t133 t134 t135 t136 t137 t138 t139 t140 t141 t142 t143 t144 t145 t146 t147 t148 t149 t150 t151 t152 t153 t154 t155 t156 t157 t158 t159 t160 t161 t162 t163 t164 t165 t166 t167 t168 t169 t170 t171 t172 t173 t174 t175 t176 t177 t178 t179 t180 t181 t182 t183 t184 t185 t186 t187 t188 t189 t190 t191 t192 t193 t194 t195 t196 t197 t198 t199 t200 t201 t202 t203 t204 t205 t206 t207 t208 t209 t210 t211 t212 t213 t214 t215 t216 t217 t218 t219 t220 t221 t222 t223 t224 t225 t226 t227 t228 t229 t230 t231 t232 t233 t234 t235 t236 t237 t238 t239 t240 t241 t242 t243 t244 t245 t246 t247 t248 t249 t250 t251 t252 t253 t254 t255 t256 t257 t258 t259 t260 : Value} (G9 k : Nat) (x y p q : UInt32) (v : Value) (wr : World) (Q : Exit → Act → World → Prop) (hk : 16 ≤ k) (hk2 : k < 64) (c16 : wr.cell? ⟨G9, k - 16, none⟩ = some (.int .u32 p.toNat)) (c7 : wr.cell? ⟨G9, k - 7, none⟩ = some (.int .u32 q.toNat)) (cw : wr.cell? ⟨G9, k, none⟩ = some v) (cf : wr.frozen? ⟨G9, k, none⟩ = false)
  (h : ∀ (nq : Nat) (u108 u109 u110 u111 u112 u113 u114 u115 u116 u117 u118 u119 u120 u121 u122 u123 u124 u125 u126 u127 u128 u129 u130 u131 u132 u133 u134 u135 u136 : Value), Q .normal ⟨(t0 :: t1 :: t2 :: t3 :: t4 :: t5 :: t6 :: t7 :: t8 :: .pointer (some ⟨G9, 0, none⟩) :: .int .i64 (k : Int) :: t11 :: .int .u32 x.toNat :: .int .u32 y.toNat :: t14 :: t15 :: t16 :: t17 :: t18 :: t19 :: t20 :: t21 :: t22 :: t23 :: t24 :: t25 :: t26 :: t27 :: t28 :: t29 :: t30 :: t31 :: t32 :: t33 :: t34 :: t35 :: t36 :: t37 :: t38 :: t39 :: t40 :: t41 :: t42 :: t43 :: t44 :: t45 :: t46 :: t47 :: t48 :: t49 :: t50 :: t51 :: t52 :: t53 :: t54 :: t55 :: t56 :: t57 :: t58 :: t59 :: t60 :: t61 :: t62 :: t63 :: t64 :: t65 :: t66 :: t67 :: t68 :: t69 :: t70 :: t71 :: t72 :: t73 :: t74 :: t75 :: t76 :: t77 :: t78 :: t79 :: t80 :: t81 :: t82 :: t83 :: t84 :: t85 :: t86 :: t87 :: t88 :: t89 :: t90 :: t91 :: t92 :: t93 :: t94 :: t95 :: t96 :: t97 :: t98 :: t99 :: t100 :: t101 :: t102 :: t103 :: t104 :: t105 :: t106 :: t107 :: u108 :: u109 :: u110 :: u111 :: u112 :: u113 :: u114 :: u115 :: u116 :: u117 :: u118 :: u119 :: u120 :: u121 :: u122 :: u123 :: u124 :: u125 :: u126 :: u127 :: u128 :: u129 :: u130 :: u131 :: u132 :: u133 :: u134 :: u135 :: u136 :: t137 :: t138 :: t139 :: t140 :: t141 :: t142 :: t143 :: t144 :: t145 :: t146 :: t147 :: t148 :: t149 :: t150 :: t151 :: t152 :: t153 :: t154 :: t155 :: t156 :: t157 :: t158 :: t159 :: t160 :: t161 :: t162 :: t163 :: t164 :: t165 :: t166 :: t167 :: t168 :: t169 :: t170 :: t171 :: t172 :: t173 :: t174 :: t175 :: t176 :: t177 :: t178 :: t179 :: t180 :: t181 :: t182 :: t183 :: t184 :: t185 :: t186 :: t187 :: t188 :: t189 :: t190 :: t191 :: t192 :: t193 :: t194 :: t195 :: t196 :: t197 :: t198 :: t199 :: t200 :: t201 :: t202 :: t203 :: t204 :: t205 :: t206 :: t207 :: t208 :: t209 :: t210 :: t211 :: t212 :: t213 :: t214 :: t215 :: t216 :: t217 :: t218 :: t219 :: t220 :: t221 :: t222 :: t223 :: t224 :: t225 :: t226 :: t227 :: t228 :: t229 :: t230 :: t231 :: t232 :: t233 :: t234 :: t235 :: t236 :: t237 :: t238 :: t239 :: t240 :: t241 :: t242 :: t243 :: t244 :: t245 :: t246 :: t247 :: t248 :: t249 :: t250 :: t251 :: t252 :: t253 :: t254 :: t255 :: t256 :: t257 :: t258 :: t259 :: t260 :: []).toArray, []⟩ ((wr.drewN nq).setCell ⟨G9, k, none⟩ (U32 (p + small0 x + q + small1 y)))) :
  code21.wp Tryd.prog Q ⟨(t0 :: t1 :: t2 :: t3 :: t4 :: t5 :: t6 :: t7 :: t8 :: .pointer (some ⟨G9, 0, none⟩) :: .int .i64 (k : Int) :: t11 :: .int .u32 x.toNat :: .int .u32 y.toNat :: t14 :: t15 :: t16 :: t17 :: t18 :: t19 :: t20 :: t21 :: t22 :: t23 :: t24 :: t25 :: t26 :: t27 :: t28 :: t29 :: t30 :: t31 :: t32 :: t33 :: t34 :: t35 :: t36 :: t37 :: t38 :: t39 :: t40 :: t41 :: t42 :: t43 :: t44 :: t45 :: t46 :: t47 :: t48 :: t49 :: t50 :: t51 :: t52 :: t53 :: t54 :: t55 :: t56 :: t57 :: t58 :: t59 :: t60 :: t61 :: t62 :: t63 :: t64 :: t65 :: t66 :: t67 :: t68 :: t69 :: t70 :: t71 :: t72 :: t73 :: t74 :: t75 :: t76 :: t77 :: t78 :: t79 :: t80 :: t81 :: t82 :: t83 :: t84 :: t85 :: t86 :: t87 :: t88 :: t89 :: t90 :: t91 :: t92 :: t93 :: t94 :: t95 :: t96 :: t97 :: t98 :: t99 :: t100 :: t101 :: t102 :: t103 :: t104 :: t105 :: t106 :: t107 :: t108 :: t109 :: t110 :: t111 :: t112 :: t113 :: t114 :: t115 :: t116 :: t117 :: t118 :: t119 :: t120 :: t121 :: t122 :: t123 :: t124 :: t125 :: t126 :: t127 :: t128 :: t129 :: t130 :: t131 :: t132 :: t133 :: t134 :: t135 :: t136 :: t137 :: t138 :: t139 :: t140 :: t141 :: t142 :: t143 :: t144 :: t145 :: t146 :: t147 :: t148 :: t149 :: t150 :: t151 :: t152 :: t153 :: t154 :: t155 :: t156 :: t157 :: t158 :: t159 :: t160 :: t161 :: t162 :: t163 :: t164 :: t165 :: t166 :: t167 :: t168 :: t169 :: t170 :: t171 :: t172 :: t173 :: t174 :: t175 :: t176 :: t177 :: t178 :: t179 :: t180 :: t181 :: t182 :: t183 :: t184 :: t185 :: t186 :: t187 :: t188 :: t189 :: t190 :: t191 :: t192 :: t193 :: t194 :: t195 :: t196 :: t197 :: t198 :: t199 :: t200 :: t201 :: t202 :: t203 :: t204 :: t205 :: t206 :: t207 :: t208 :: t209 :: t210 :: t211 :: t212 :: t213 :: t214 :: t215 :: t216 :: t217 :: t218 :: t219 :: t220 :: t221 :: t222 :: t223 :: t224 :: t225 :: t226 :: t227 :: t228 :: t229 :: t230 :: t231 :: t232 :: t233 :: t234 :: t235 :: t236 :: t237 :: t238 :: t239 :: t240 :: t241 :: t242 :: t243 :: t244 :: t245 :: t246 :: t247 :: t248 :: t249 :: t250 :: t251 :: t252 :: t253 :: t254 :: t255 :: t256 :: t257 :: t258 :: t259 :: t260 :: []).toArray, []⟩ wr := by
 conv => arg 2; whnf
 have a1 : IntKind.i64.wrap ((k : Int) - 16) = (k : Int) - 16 := IntWalk.i64_in _ (by omega)
 have a2 : IntKind.i64.wrap ((k : Int) - 7) = (k : Int) - 7 := IntWalk.i64_in _ (by omega)
 have a3 : (0 : Int) ≤ (k : Int) - 16 := by omega
 have a4 : (k : Int) - 16 < 64 := by omega
 have a5 : (0 : Int) ≤ (k : Int) - 7 := by omega
 have a6 : (k : Int) - 7 < 64 := by omega
 have a7 : ((k : Int) - 16).toNat = k - 16 := by omega
 have a8 : ((k : Int) - 7).toNat = k - 7 := by omega
 have b1 : (16 : Int) ≤ (k : Int) := by omega
 have b2 : (7 : Int) ≤ (k : Int) := by omega
 refine wp_region_quiet_tail 29 (by kernel_rfl) (by kernel_rfl) ?_
 simp only [List.take_succ_cons, List.take_zero, List.drop_succ_cons, List.drop_zero]
 repeat (go_big_quiet_step (first | (go_at_call_of 96 (Value.int IntKind.i64 7); exact Calls.quiet_of (turn_7 _ _)) | (go_at_call_of 96 (Value.int IntKind.i64 18); exact Calls.quiet_of (turn_18 _ _)) | (go_at_call_of 96 (Value.int IntKind.i64 17); exact Calls.quiet_of (turn_17 _ _)) | (go_at_call_of 96 (Value.int IntKind.i64 19); exact Calls.quiet_of (turn_19 _ _)) | (go_at_call_of 96 (Value.int IntKind.i64 6); exact Calls.quiet_of (turn_6 _ _)) | (go_at_call_of 96 (Value.int IntKind.i64 11); exact Calls.quiet_of (turn_11 _ _)) | (go_at_call_of 96 (Value.int IntKind.i64 25); exact Calls.quiet_of (turn_25 _ _)) | (go_at_call_of 96 (Value.int IntKind.i64 2); exact Calls.quiet_of (turn_2 _ _)) | (go_at_call_of 96 (Value.int IntKind.i64 13); exact Calls.quiet_of (turn_13 _ _)) | (go_at_call_of 96 (Value.int IntKind.i64 22); exact Calls.quiet_of (turn_22 _ _))))
 refine wpQuiet_nil ?_
 intro nq
 go_wp2
 rw [s0_eq, s1_eq, w_add4]
 exact h nq _ _ _ _ _ _ _ _ _ _ _ _ _ _ _ _ _ _ _ _ _ _ _ _ _ _ _ _ _

noncomputable def code26 : Code := ((Tryd.f86.body.bind (regionOf 26)).getD .skip)
set_option maxRecDepth 1000000 in
set_option maxHeartbeats 4000000 in
theorem reg26 {t0 t1 t2 t3 t4 t5 t6 t7 t8 t9 t10 t11 t12 t13 t15 t16 t17 t18 t19 t20 t21 t22 t23 t24 t25 t26 t27 t28 t29 t30 t31 t32 t33 t34 t35 t36 t37 t38 t39 t40 t41 t42 t43 t44 t45 t46 t47 t48 t49 t50 t51 t52 t53 t54 t55 t56 t57 t58 t59 t60 t61 t62 t63 t64 t65 t66 t67 t68 t69 t70 t71 t72 t73 t74 t75 t76 t77 t78 t79 t80 t81 t82 t83 t84 t85 t86 t87 t88 t89 t90 t91 t92 t93 t94 t95 t96 t97 t98 t99 t100 t101 t102 t103 t104 t105 t106 t107 t108 t109 t110 t111 t112 t113 t114 t115 t116 t117 t118 t119 t120 t121 t122 t123 t124 t125 t126 t127 t128 t129 t130 t131 t132 t133 t134 t135 t136 t137 t138 t139 t140 t141 t142 t143 t144 t145 t146 t147 t148 t149 t150 t151 t152 t153 t154 t155 t156 t157 t158 t159 t160 t161 t162 t163 t164 t165 t166 t167 t168 t169 t170 t171 t172 t173 t174 t175 t176 t177 t178 t179 t180 t181 t182 t183 t184 t185 t186 t187 t188 t189 t190 t191 t192 t193 t194 t195 t196 t197 t198 t199 t200 t201 t202 t203 t204 t205 t206 t207 t208 t209 t210 t211 t212 t213 t214 t215 t216 t217 t218 t219 t220 t221 t222 t223 t224 t225 t226 t227 t228 t229 t230 t231 t232 t233 t234 t235 t236 t237 t238 t239 t240 t241 t242 t243 t244 t245 t246 t247 t248 t249 t250 t251 t252 t253 t254 t255 t256 t257 t258 t259 t260 : Value} (g : Nat) (s : St) (wr : World) (Q : Exit → Act → World → Prop) (c0 : wr.cell? ⟨g, 0, none⟩ = some (.int .u32 s.a.toNat)) (c4 : wr.cell? ⟨g, 4, none⟩ = some (.int .u32 s.e.toNat))
  (h : ∀ (nq : Nat) (u142 u143 u144 u145 : Value), Q .normal ⟨(t0 :: t1 :: t2 :: t3 :: t4 :: t5 :: t6 :: t7 :: t8 :: t9 :: t10 :: t11 :: t12 :: t13 :: .pointer (some ⟨g, 0, none⟩) :: t15 :: .int .u32 s.e.toNat :: .int .u32 s.a.toNat :: t18 :: t19 :: t20 :: t21 :: t22 :: t23 :: t24 :: t25 :: t26 :: t27 :: t28 :: t29 :: t30 :: t31 :: t32 :: t33 :: t34 :: t35 :: t36 :: t37 :: t38 :: t39 :: t40 :: t41 :: t42 :: t43 :: t44 :: t45 :: t46 :: t47 :: t48 :: t49 :: t50 :: t51 :: t52 :: t53 :: t54 :: t55 :: t56 :: t57 :: t58 :: t59 :: t60 :: t61 :: t62 :: t63 :: t64 :: t65 :: t66 :: t67 :: t68 :: t69 :: t70 :: t71 :: t72 :: t73 :: t74 :: t75 :: t76 :: t77 :: t78 :: t79 :: t80 :: t81 :: t82 :: t83 :: t84 :: t85 :: t86 :: t87 :: t88 :: t89 :: t90 :: t91 :: t92 :: t93 :: t94 :: t95 :: t96 :: t97 :: t98 :: t99 :: t100 :: t101 :: t102 :: t103 :: t104 :: t105 :: t106 :: t107 :: t108 :: t109 :: t110 :: t111 :: t112 :: t113 :: t114 :: t115 :: t116 :: t117 :: t118 :: t119 :: t120 :: t121 :: t122 :: t123 :: t124 :: t125 :: t126 :: t127 :: t128 :: t129 :: t130 :: t131 :: t132 :: t133 :: t134 :: t135 :: t136 :: t137 :: t138 :: t139 :: t140 :: t141 :: u142 :: u143 :: u144 :: u145 :: t146 :: t147 :: t148 :: t149 :: t150 :: t151 :: t152 :: t153 :: t154 :: t155 :: t156 :: t157 :: t158 :: t159 :: t160 :: t161 :: t162 :: t163 :: t164 :: t165 :: t166 :: t167 :: t168 :: t169 :: t170 :: t171 :: t172 :: t173 :: t174 :: t175 :: t176 :: t177 :: t178 :: t179 :: t180 :: t181 :: t182 :: t183 :: t184 :: t185 :: t186 :: t187 :: t188 :: t189 :: t190 :: t191 :: t192 :: t193 :: t194 :: t195 :: t196 :: t197 :: t198 :: t199 :: t200 :: t201 :: t202 :: t203 :: t204 :: t205 :: t206 :: t207 :: t208 :: t209 :: t210 :: t211 :: t212 :: t213 :: t214 :: t215 :: t216 :: t217 :: t218 :: t219 :: t220 :: t221 :: t222 :: t223 :: t224 :: t225 :: t226 :: t227 :: t228 :: t229 :: t230 :: t231 :: t232 :: t233 :: t234 :: t235 :: t236 :: t237 :: t238 :: t239 :: t240 :: t241 :: t242 :: t243 :: t244 :: t245 :: t246 :: t247 :: t248 :: t249 :: t250 :: t251 :: t252 :: t253 :: t254 :: t255 :: t256 :: t257 :: t258 :: t259 :: t260 :: []).toArray, []⟩ (wr.drewN nq)) :
  code26.wp Tryd.prog Q ⟨(t0 :: t1 :: t2 :: t3 :: t4 :: t5 :: t6 :: t7 :: t8 :: t9 :: t10 :: t11 :: t12 :: t13 :: .pointer (some ⟨g, 0, none⟩) :: t15 :: t16 :: t17 :: t18 :: t19 :: t20 :: t21 :: t22 :: t23 :: t24 :: t25 :: t26 :: t27 :: t28 :: t29 :: t30 :: t31 :: t32 :: t33 :: t34 :: t35 :: t36 :: t37 :: t38 :: t39 :: t40 :: t41 :: t42 :: t43 :: t44 :: t45 :: t46 :: t47 :: t48 :: t49 :: t50 :: t51 :: t52 :: t53 :: t54 :: t55 :: t56 :: t57 :: t58 :: t59 :: t60 :: t61 :: t62 :: t63 :: t64 :: t65 :: t66 :: t67 :: t68 :: t69 :: t70 :: t71 :: t72 :: t73 :: t74 :: t75 :: t76 :: t77 :: t78 :: t79 :: t80 :: t81 :: t82 :: t83 :: t84 :: t85 :: t86 :: t87 :: t88 :: t89 :: t90 :: t91 :: t92 :: t93 :: t94 :: t95 :: t96 :: t97 :: t98 :: t99 :: t100 :: t101 :: t102 :: t103 :: t104 :: t105 :: t106 :: t107 :: t108 :: t109 :: t110 :: t111 :: t112 :: t113 :: t114 :: t115 :: t116 :: t117 :: t118 :: t119 :: t120 :: t121 :: t122 :: t123 :: t124 :: t125 :: t126 :: t127 :: t128 :: t129 :: t130 :: t131 :: t132 :: t133 :: t134 :: t135 :: t136 :: t137 :: t138 :: t139 :: t140 :: t141 :: t142 :: t143 :: t144 :: t145 :: t146 :: t147 :: t148 :: t149 :: t150 :: t151 :: t152 :: t153 :: t154 :: t155 :: t156 :: t157 :: t158 :: t159 :: t160 :: t161 :: t162 :: t163 :: t164 :: t165 :: t166 :: t167 :: t168 :: t169 :: t170 :: t171 :: t172 :: t173 :: t174 :: t175 :: t176 :: t177 :: t178 :: t179 :: t180 :: t181 :: t182 :: t183 :: t184 :: t185 :: t186 :: t187 :: t188 :: t189 :: t190 :: t191 :: t192 :: t193 :: t194 :: t195 :: t196 :: t197 :: t198 :: t199 :: t200 :: t201 :: t202 :: t203 :: t204 :: t205 :: t206 :: t207 :: t208 :: t209 :: t210 :: t211 :: t212 :: t213 :: t214 :: t215 :: t216 :: t217 :: t218 :: t219 :: t220 :: t221 :: t222 :: t223 :: t224 :: t225 :: t226 :: t227 :: t228 :: t229 :: t230 :: t231 :: t232 :: t233 :: t234 :: t235 :: t236 :: t237 :: t238 :: t239 :: t240 :: t241 :: t242 :: t243 :: t244 :: t245 :: t246 :: t247 :: t248 :: t249 :: t250 :: t251 :: t252 :: t253 :: t254 :: t255 :: t256 :: t257 :: t258 :: t259 :: t260 :: []).toArray, []⟩ wr := by
 conv => arg 2; whnf
 go_big_quiet (fail)
 exact h nq _ _ _ _

noncomputable def code27 : Code := ((Tryd.f86.body.bind (regionOf 27)).getD .skip)
set_option maxRecDepth 1000000 in
set_option maxHeartbeats 4000000 in
theorem reg27 {t0 t1 t2 t3 t5 t6 t7 t8 t10 t11 t12 t13 t17 t18 t19 t20 t21 t22 t23 t24 t25 t26 t27 t28 t29 t30 t31 t32 t33 t34 t35 t36 t37 t38 t39 t40 t41 t42 t43 t44 t45 t46 t47 t48 t49 t50 t51 t52 t53 t54 t55 t56 t57 t58 t59 t60 t61 t62 t63 t64 t65 t66 t67 t68 t69 t70 t71 t72 t73 t74 t75 t76 t77 t78 t79 t80 t81 t82 t83 t84 t85 t86 t87 t88 t89 t90 t91 t92 t93 t94 t95 t96 t97 t98 t99 t100 t101 t102 t103 t104 t105 t106 t107 t108 t109 t110 t111 t112 t113 t114 t115 t116 t117 t118 t119 t120 t121 t122 t123 t124 t125 t126 t127 t128 t129 t130 t131 t132 t133 t134 t135 t136 t137 t138 t139 t140 t141 t142 t143 t144 t145 t146 t147 t148 t149 t150 t151 t152 t153 t154 t155 t156 t157 t158 t159 t160 t161 t162 t163 t164 t165 t166 t167 t168 t169 t170 t171 t172 t173 t174 t175 t176 t177 t178 t179 t180 t181 t182 t183 t184 t185 t186 t187 t188 t189 t190 t191 t192 t193 t194 t195 t196 t197 t198 t199 t200 t201 t202 t203 t204 t205 t206 t207 t208 t209 t210 t211 t212 t213 t214 t215 t216 t217 t218 t219 t220 t221 t222 t223 t224 t225 t226 t227 t228 t229 t230 t231 t232 t233 t234 t235 t236 t237 t238 t239 t240 t241 t242 t243 t244 t245 t246 t247 t248 t249 t250 t251 t252 t253 t254 t255 t256 t257 t258 t259 t260 : Value} (g gk gw k : Nat) (s : St) (kk ww : UInt32) (wr : World) (Q : Exit → Act → World → Prop) (hk : k < 64) (c5 : wr.cell? ⟨g, 5, none⟩ = some (.int .u32 s.f.toNat)) (c6 : wr.cell? ⟨g, 6, none⟩ = some (.int .u32 s.g.toNat)) (c7 : wr.cell? ⟨g, 7, none⟩ = some (.int .u32 s.h.toNat)) (ck : wr.cell? ⟨gk, k, none⟩ = some (.int .u32 kk.toNat)) (cw : wr.cell? ⟨gw, k, none⟩ = some (.int .u32 ww.toNat))
  (h : ∀ (nq : Nat) (u146 u147 u148 u149 u150 u151 u152 u153 u154 u155 u156 u157 u158 u159 u160 u161 u162 u163 u164 u165 u166 u167 u168 u169 u170 u171 u172 u173 u174 u175 : Value), Q .normal ⟨(t0 :: t1 :: t2 :: t3 :: .pointer (some ⟨gk, 0, none⟩) :: t5 :: t6 :: t7 :: t8 :: .pointer (some ⟨gw, 0, none⟩) :: t10 :: t11 :: t12 :: t13 :: .pointer (some ⟨g, 0, none⟩) :: .int .i64 (k : Int) :: .int .u32 s.e.toNat :: t17 :: U32 (s.h + big1 s.e + choice s.e s.f s.g + kk + ww) :: t19 :: t20 :: t21 :: t22 :: t23 :: t24 :: t25 :: t26 :: t27 :: t28 :: t29 :: t30 :: t31 :: t32 :: t33 :: t34 :: t35 :: t36 :: t37 :: t38 :: t39 :: t40 :: t41 :: t42 :: t43 :: t44 :: t45 :: t46 :: t47 :: t48 :: t49 :: t50 :: t51 :: t52 :: t53 :: t54 :: t55 :: t56 :: t57 :: t58 :: t59 :: t60 :: t61 :: t62 :: t63 :: t64 :: t65 :: t66 :: t67 :: t68 :: t69 :: t70 :: t71 :: t72 :: t73 :: t74 :: t75 :: t76 :: t77 :: t78 :: t79 :: t80 :: t81 :: t82 :: t83 :: t84 :: t85 :: t86 :: t87 :: t88 :: t89 :: t90 :: t91 :: t92 :: t93 :: t94 :: t95 :: t96 :: t97 :: t98 :: t99 :: t100 :: t101 :: t102 :: t103 :: t104 :: t105 :: t106 :: t107 :: t108 :: t109 :: t110 :: t111 :: t112 :: t113 :: t114 :: t115 :: t116 :: t117 :: t118 :: t119 :: t120 :: t121 :: t122 :: t123 :: t124 :: t125 :: t126 :: t127 :: t128 :: t129 :: t130 :: t131 :: t132 :: t133 :: t134 :: t135 :: t136 :: t137 :: t138 :: t139 :: t140 :: t141 :: t142 :: t143 :: t144 :: t145 :: u146 :: u147 :: u148 :: u149 :: u150 :: u151 :: u152 :: u153 :: u154 :: u155 :: u156 :: u157 :: u158 :: u159 :: u160 :: u161 :: u162 :: u163 :: u164 :: u165 :: u166 :: u167 :: u168 :: u169 :: u170 :: u171 :: u172 :: u173 :: u174 :: u175 :: t176 :: t177 :: t178 :: t179 :: t180 :: t181 :: t182 :: t183 :: t184 :: t185 :: t186 :: t187 :: t188 :: t189 :: t190 :: t191 :: t192 :: t193 :: t194 :: t195 :: t196 :: t197 :: t198 :: t199 :: t200 :: t201 :: t202 :: t203 :: t204 :: t205 :: t206 :: t207 :: t208 :: t209 :: t210 :: t211 :: t212 :: t213 :: t214 :: t215 :: t216 :: t217 :: t218 :: t219 :: t220 :: t221 :: t222 :: t223 :: t224 :: t225 :: t226 :: t227 :: t228 :: t229 :: t230 :: t231 :: t232 :: t233 :: t234 :: t235 :: t236 :: t237 :: t238 :: t239 :: t240 :: t241 :: t242 :: t243 :: t244 :: t245 :: t246 :: t247 :: t248 :: t249 :: t250 :: t251 :: t252 :: t253 :: t254 :: t255 :: t256 :: t257 :: t258 :: t259 :: t260 :: []).toArray, []⟩ (wr.drewN nq)) :
  code27.wp Tryd.prog Q ⟨(t0 :: t1 :: t2 :: t3 :: .pointer (some ⟨gk, 0, none⟩) :: t5 :: t6 :: t7 :: t8 :: .pointer (some ⟨gw, 0, none⟩) :: t10 :: t11 :: t12 :: t13 :: .pointer (some ⟨g, 0, none⟩) :: .int .i64 (k : Int) :: .int .u32 s.e.toNat :: t17 :: t18 :: t19 :: t20 :: t21 :: t22 :: t23 :: t24 :: t25 :: t26 :: t27 :: t28 :: t29 :: t30 :: t31 :: t32 :: t33 :: t34 :: t35 :: t36 :: t37 :: t38 :: t39 :: t40 :: t41 :: t42 :: t43 :: t44 :: t45 :: t46 :: t47 :: t48 :: t49 :: t50 :: t51 :: t52 :: t53 :: t54 :: t55 :: t56 :: t57 :: t58 :: t59 :: t60 :: t61 :: t62 :: t63 :: t64 :: t65 :: t66 :: t67 :: t68 :: t69 :: t70 :: t71 :: t72 :: t73 :: t74 :: t75 :: t76 :: t77 :: t78 :: t79 :: t80 :: t81 :: t82 :: t83 :: t84 :: t85 :: t86 :: t87 :: t88 :: t89 :: t90 :: t91 :: t92 :: t93 :: t94 :: t95 :: t96 :: t97 :: t98 :: t99 :: t100 :: t101 :: t102 :: t103 :: t104 :: t105 :: t106 :: t107 :: t108 :: t109 :: t110 :: t111 :: t112 :: t113 :: t114 :: t115 :: t116 :: t117 :: t118 :: t119 :: t120 :: t121 :: t122 :: t123 :: t124 :: t125 :: t126 :: t127 :: t128 :: t129 :: t130 :: t131 :: t132 :: t133 :: t134 :: t135 :: t136 :: t137 :: t138 :: t139 :: t140 :: t141 :: t142 :: t143 :: t144 :: t145 :: t146 :: t147 :: t148 :: t149 :: t150 :: t151 :: t152 :: t153 :: t154 :: t155 :: t156 :: t157 :: t158 :: t159 :: t160 :: t161 :: t162 :: t163 :: t164 :: t165 :: t166 :: t167 :: t168 :: t169 :: t170 :: t171 :: t172 :: t173 :: t174 :: t175 :: t176 :: t177 :: t178 :: t179 :: t180 :: t181 :: t182 :: t183 :: t184 :: t185 :: t186 :: t187 :: t188 :: t189 :: t190 :: t191 :: t192 :: t193 :: t194 :: t195 :: t196 :: t197 :: t198 :: t199 :: t200 :: t201 :: t202 :: t203 :: t204 :: t205 :: t206 :: t207 :: t208 :: t209 :: t210 :: t211 :: t212 :: t213 :: t214 :: t215 :: t216 :: t217 :: t218 :: t219 :: t220 :: t221 :: t222 :: t223 :: t224 :: t225 :: t226 :: t227 :: t228 :: t229 :: t230 :: t231 :: t232 :: t233 :: t234 :: t235 :: t236 :: t237 :: t238 :: t239 :: t240 :: t241 :: t242 :: t243 :: t244 :: t245 :: t246 :: t247 :: t248 :: t249 :: t250 :: t251 :: t252 :: t253 :: t254 :: t255 :: t256 :: t257 :: t258 :: t259 :: t260 :: []).toArray, []⟩ wr := by
 conv => arg 2; whnf
 have hsg : IntKind.u32.signed = false := rfl
 go_big_quiet (first | (go_at_call_of 96 (Value.int IntKind.i64 7); exact Calls.quiet_of (turn_7 _ _)) | (go_at_call_of 96 (Value.int IntKind.i64 18); exact Calls.quiet_of (turn_18 _ _)) | (go_at_call_of 96 (Value.int IntKind.i64 17); exact Calls.quiet_of (turn_17 _ _)) | (go_at_call_of 96 (Value.int IntKind.i64 19); exact Calls.quiet_of (turn_19 _ _)) | (go_at_call_of 96 (Value.int IntKind.i64 6); exact Calls.quiet_of (turn_6 _ _)) | (go_at_call_of 96 (Value.int IntKind.i64 11); exact Calls.quiet_of (turn_11 _ _)) | (go_at_call_of 96 (Value.int IntKind.i64 25); exact Calls.quiet_of (turn_25 _ _)) | (go_at_call_of 96 (Value.int IntKind.i64 2); exact Calls.quiet_of (turn_2 _ _)) | (go_at_call_of 96 (Value.int IntKind.i64 13); exact Calls.quiet_of (turn_13 _ _)) | (go_at_call_of 96 (Value.int IntKind.i64 22); exact Calls.quiet_of (turn_22 _ _)))
 simp only [w_not, w_xor, w_and, w_add4, w_add]
 exact h nq _ _ _ _ _ _ _ _ _ _ _ _ _ _ _ _ _ _ _ _ _ _ _ _ _ _ _ _ _ _

noncomputable def code28 : Code := ((Tryd.f86.body.bind (regionOf 28)).getD .skip)
set_option maxRecDepth 1000000 in
set_option maxHeartbeats 4000000 in
theorem reg28 {t0 t1 t2 t3 t4 t5 t6 t7 t8 t9 t10 t11 t12 t13 t15 t16 t18 t19 t20 t21 t22 t23 t24 t25 t26 t27 t28 t29 t30 t31 t32 t33 t34 t35 t36 t37 t38 t39 t40 t41 t42 t43 t44 t45 t46 t47 t48 t49 t50 t51 t52 t53 t54 t55 t56 t57 t58 t59 t60 t61 t62 t63 t64 t65 t66 t67 t68 t69 t70 t71 t72 t73 t74 t75 t76 t77 t78 t79 t80 t81 t82 t83 t84 t85 t86 t87 t88 t89 t90 t91 t92 t93 t94 t95 t96 t97 t98 t99 t100 t101 t102 t103 t104 t105 t106 t107 t108 t109 t110 t111 t112 t113 t114 t115 t116 t117 t118 t119 t120 t121 t122 t123 t124 t125 t126 t127 t128 t129 t130 t131 t132 t133 t134 t135 t136 t137 t138 t139 t140 t141 t142 t143 t144 t145 t146 t147 t148 t149 t150 t151 t152 t153 t154 t155 t156 t157 t158 t159 t160 t161 t162 t163 t164 t165 t166 t167 t168 t169 t170 t171 t172 t173 t174 t175 t176 t177 t178 t179 t180 t181 t182 t183 t184 t185 t186 t187 t188 t189 t190 t191 t192 t193 t194 t195 t196 t197 t198 t199 t200 t201 t202 t203 t204 t205 t206 t207 t208 t209 t210 t211 t212 t213 t214 t215 t216 t217 t218 t219 t220 t221 t222 t223 t224 t225 t226 t227 t228 t229 t230 t231 t232 t233 t234 t235 t236 t237 t238 t239 t240 t241 t242 t243 t244 t245 t246 t247 t248 t249 t250 t251 t252 t253 t254 t255 t256 t257 t258 t259 t260 : Value} (g : Nat) (s : St) (wr : World) (Q : Exit → Act → World → Prop) (c1 : wr.cell? ⟨g, 1, none⟩ = some (.int .u32 s.b.toNat)) (c2 : wr.cell? ⟨g, 2, none⟩ = some (.int .u32 s.c.toNat))
  (h : ∀ (nq : Nat) (u176 u177 u178 u179 u180 u181 u182 u183 u184 u185 u186 u187 u188 u189 u190 u191 u192 u193 u194 u195 u196 u197 u198 u199 : Value), Q .normal ⟨(t0 :: t1 :: t2 :: t3 :: t4 :: t5 :: t6 :: t7 :: t8 :: t9 :: t10 :: t11 :: t12 :: t13 :: .pointer (some ⟨g, 0, none⟩) :: t15 :: t16 :: .int .u32 s.a.toNat :: t18 :: U32 (big0 s.a + majority s.a s.b s.c) :: t20 :: t21 :: t22 :: t23 :: t24 :: t25 :: t26 :: t27 :: t28 :: t29 :: t30 :: t31 :: t32 :: t33 :: t34 :: t35 :: t36 :: t37 :: t38 :: t39 :: t40 :: t41 :: t42 :: t43 :: t44 :: t45 :: t46 :: t47 :: t48 :: t49 :: t50 :: t51 :: t52 :: t53 :: t54 :: t55 :: t56 :: t57 :: t58 :: t59 :: t60 :: t61 :: t62 :: t63 :: t64 :: t65 :: t66 :: t67 :: t68 :: t69 :: t70 :: t71 :: t72 :: t73 :: t74 :: t75 :: t76 :: t77 :: t78 :: t79 :: t80 :: t81 :: t82 :: t83 :: t84 :: t85 :: t86 :: t87 :: t88 :: t89 :: t90 :: t91 :: t92 :: t93 :: t94 :: t95 :: t96 :: t97 :: t98 :: t99 :: t100 :: t101 :: t102 :: t103 :: t104 :: t105 :: t106 :: t107 :: t108 :: t109 :: t110 :: t111 :: t112 :: t113 :: t114 :: t115 :: t116 :: t117 :: t118 :: t119 :: t120 :: t121 :: t122 :: t123 :: t124 :: t125 :: t126 :: t127 :: t128 :: t129 :: t130 :: t131 :: t132 :: t133 :: t134 :: t135 :: t136 :: t137 :: t138 :: t139 :: t140 :: t141 :: t142 :: t143 :: t144 :: t145 :: t146 :: t147 :: t148 :: t149 :: t150 :: t151 :: t152 :: t153 :: t154 :: t155 :: t156 :: t157 :: t158 :: t159 :: t160 :: t161 :: t162 :: t163 :: t164 :: t165 :: t166 :: t167 :: t168 :: t169 :: t170 :: t171 :: t172 :: t173 :: t174 :: t175 :: u176 :: u177 :: u178 :: u179 :: u180 :: u181 :: u182 :: u183 :: u184 :: u185 :: u186 :: u187 :: u188 :: u189 :: u190 :: u191 :: u192 :: u193 :: u194 :: u195 :: u196 :: u197 :: u198 :: u199 :: t200 :: t201 :: t202 :: t203 :: t204 :: t205 :: t206 :: t207 :: t208 :: t209 :: t210 :: t211 :: t212 :: t213 :: t214 :: t215 :: t216 :: t217 :: t218 :: t219 :: t220 :: t221 :: t222 :: t223 :: t224 :: t225 :: t226 :: t227 :: t228 :: t229 :: t230 :: t231 :: t232 :: t233 :: t234 :: t235 :: t236 :: t237 :: t238 :: t239 :: t240 :: t241 :: t242 :: t243 :: t244 :: t245 :: t246 :: t247 :: t248 :: t249 :: t250 :: t251 :: t252 :: t253 :: t254 :: t255 :: t256 :: t257 :: t258 :: t259 :: t260 :: []).toArray, []⟩ (wr.drewN nq)) :
  code28.wp Tryd.prog Q ⟨(t0 :: t1 :: t2 :: t3 :: t4 :: t5 :: t6 :: t7 :: t8 :: t9 :: t10 :: t11 :: t12 :: t13 :: .pointer (some ⟨g, 0, none⟩) :: t15 :: t16 :: .int .u32 s.a.toNat :: t18 :: t19 :: t20 :: t21 :: t22 :: t23 :: t24 :: t25 :: t26 :: t27 :: t28 :: t29 :: t30 :: t31 :: t32 :: t33 :: t34 :: t35 :: t36 :: t37 :: t38 :: t39 :: t40 :: t41 :: t42 :: t43 :: t44 :: t45 :: t46 :: t47 :: t48 :: t49 :: t50 :: t51 :: t52 :: t53 :: t54 :: t55 :: t56 :: t57 :: t58 :: t59 :: t60 :: t61 :: t62 :: t63 :: t64 :: t65 :: t66 :: t67 :: t68 :: t69 :: t70 :: t71 :: t72 :: t73 :: t74 :: t75 :: t76 :: t77 :: t78 :: t79 :: t80 :: t81 :: t82 :: t83 :: t84 :: t85 :: t86 :: t87 :: t88 :: t89 :: t90 :: t91 :: t92 :: t93 :: t94 :: t95 :: t96 :: t97 :: t98 :: t99 :: t100 :: t101 :: t102 :: t103 :: t104 :: t105 :: t106 :: t107 :: t108 :: t109 :: t110 :: t111 :: t112 :: t113 :: t114 :: t115 :: t116 :: t117 :: t118 :: t119 :: t120 :: t121 :: t122 :: t123 :: t124 :: t125 :: t126 :: t127 :: t128 :: t129 :: t130 :: t131 :: t132 :: t133 :: t134 :: t135 :: t136 :: t137 :: t138 :: t139 :: t140 :: t141 :: t142 :: t143 :: t144 :: t145 :: t146 :: t147 :: t148 :: t149 :: t150 :: t151 :: t152 :: t153 :: t154 :: t155 :: t156 :: t157 :: t158 :: t159 :: t160 :: t161 :: t162 :: t163 :: t164 :: t165 :: t166 :: t167 :: t168 :: t169 :: t170 :: t171 :: t172 :: t173 :: t174 :: t175 :: t176 :: t177 :: t178 :: t179 :: t180 :: t181 :: t182 :: t183 :: t184 :: t185 :: t186 :: t187 :: t188 :: t189 :: t190 :: t191 :: t192 :: t193 :: t194 :: t195 :: t196 :: t197 :: t198 :: t199 :: t200 :: t201 :: t202 :: t203 :: t204 :: t205 :: t206 :: t207 :: t208 :: t209 :: t210 :: t211 :: t212 :: t213 :: t214 :: t215 :: t216 :: t217 :: t218 :: t219 :: t220 :: t221 :: t222 :: t223 :: t224 :: t225 :: t226 :: t227 :: t228 :: t229 :: t230 :: t231 :: t232 :: t233 :: t234 :: t235 :: t236 :: t237 :: t238 :: t239 :: t240 :: t241 :: t242 :: t243 :: t244 :: t245 :: t246 :: t247 :: t248 :: t249 :: t250 :: t251 :: t252 :: t253 :: t254 :: t255 :: t256 :: t257 :: t258 :: t259 :: t260 :: []).toArray, []⟩ wr := by
 conv => arg 2; whnf
 go_big_quiet (first | (go_at_call_of 96 (Value.int IntKind.i64 7); exact Calls.quiet_of (turn_7 _ _)) | (go_at_call_of 96 (Value.int IntKind.i64 18); exact Calls.quiet_of (turn_18 _ _)) | (go_at_call_of 96 (Value.int IntKind.i64 17); exact Calls.quiet_of (turn_17 _ _)) | (go_at_call_of 96 (Value.int IntKind.i64 19); exact Calls.quiet_of (turn_19 _ _)) | (go_at_call_of 96 (Value.int IntKind.i64 6); exact Calls.quiet_of (turn_6 _ _)) | (go_at_call_of 96 (Value.int IntKind.i64 11); exact Calls.quiet_of (turn_11 _ _)) | (go_at_call_of 96 (Value.int IntKind.i64 25); exact Calls.quiet_of (turn_25 _ _)) | (go_at_call_of 96 (Value.int IntKind.i64 2); exact Calls.quiet_of (turn_2 _ _)) | (go_at_call_of 96 (Value.int IntKind.i64 13); exact Calls.quiet_of (turn_13 _ _)) | (go_at_call_of 96 (Value.int IntKind.i64 22); exact Calls.quiet_of (turn_22 _ _)))
 simp only [w_xor, w_and, w_add]
 exact h nq _ _ _ _ _ _ _ _ _ _ _ _ _ _ _ _ _ _ _ _ _ _ _ _

noncomputable def code33 : Code := ((Tryd.f86.body.bind (regionOf 33)).getD .skip)
set_option maxRecDepth 1000000 in
set_option maxHeartbeats 4000000 in
theorem reg33 {t0 t1 t2 t4 t5 t6 t7 t8 t9 t10 t11 t12 t13 t15 t16 t17 t18 t19 t21 t22 t23 t24 t25 t26 t27 t28 t29 t30 t31 t32 t33 t34 t35 t36 t37 t38 t39 t40 t41 t42 t43 t44 t45 t46 t47 t48 t49 t50 t51 t52 t53 t54 t55 t56 t57 t58 t59 t60 t61 t62 t63 t64 t65 t66 t67 t68 t69 t70 t71 t72 t73 t74 t75 t76 t77 t78 t79 t80 t81 t82 t83 t84 t85 t86 t87 t88 t89 t90 t91 t92 t93 t94 t95 t96 t97 t98 t99 t100 t101 t102 t103 t104 t105 t106 t107 t108 t109 t110 t111 t112 t113 t114 t115 t116 t117 t118 t119 t120 t121 t122 t123 t124 t125 t126 t127 t128 t129 t130 t131 t132 t133 t134 t135 t136 t137 t138 t139 t140 t141 t142 t143 t144 t145 t146 t147 t148 t149 t150 t151 t152 t153 t154 t155 t156 t157 t158 t159 t160 t161 t162 t163 t164 t165 t166 t167 t168 t169 t170 t171 t172 t173 t174 t175 t176 t177 t178 t179 t180 t181 t182 t183 t184 t185 t186 t187 t188 t189 t190 t191 t192 t193 t194 t195 t196 t197 t198 t199 t200 t201 t202 t203 t204 t205 t206 t207 t208 t209 t210 t211 t212 t213 t214 t215 t216 t217 t218 t219 t220 t221 t222 t223 t224 t225 t226 t227 t228 t229 t230 t231 t232 t233 t234 t235 t236 t237 t238 t239 t240 t241 t242 t243 t244 t245 t246 t247 t248 t249 t250 t251 t252 t253 t254 t255 t256 t257 t258 t259 t260 : Value} (g g' k : Nat) (x y : UInt32) (wr : World) (Q : Exit → Act → World → Prop) (hk : k < 8) (c0 : wr.cell? ⟨g, k, none⟩ = some (.int .u32 x.toNat)) (cf : wr.frozen? ⟨g, k, none⟩ = false) (c1 : wr.cell? ⟨g', k, none⟩ = some (.int .u32 y.toNat))
  (h : ∀ (nq : Nat) (u224 u225 u226 u227 u228 u229 u230 u231 u232 : Value), Q .normal ⟨(t0 :: t1 :: t2 :: .pointer (some ⟨g, 0, none⟩) :: t4 :: t5 :: t6 :: t7 :: t8 :: t9 :: t10 :: t11 :: t12 :: t13 :: .pointer (some ⟨g', 0, none⟩) :: t15 :: t16 :: t17 :: t18 :: t19 :: .int .i64 (k : Int) :: t21 :: t22 :: t23 :: t24 :: t25 :: t26 :: t27 :: t28 :: t29 :: t30 :: t31 :: t32 :: t33 :: t34 :: t35 :: t36 :: t37 :: t38 :: t39 :: t40 :: t41 :: t42 :: t43 :: t44 :: t45 :: t46 :: t47 :: t48 :: t49 :: t50 :: t51 :: t52 :: t53 :: t54 :: t55 :: t56 :: t57 :: t58 :: t59 :: t60 :: t61 :: t62 :: t63 :: t64 :: t65 :: t66 :: t67 :: t68 :: t69 :: t70 :: t71 :: t72 :: t73 :: t74 :: t75 :: t76 :: t77 :: t78 :: t79 :: t80 :: t81 :: t82 :: t83 :: t84 :: t85 :: t86 :: t87 :: t88 :: t89 :: t90 :: t91 :: t92 :: t93 :: t94 :: t95 :: t96 :: t97 :: t98 :: t99 :: t100 :: t101 :: t102 :: t103 :: t104 :: t105 :: t106 :: t107 :: t108 :: t109 :: t110 :: t111 :: t112 :: t113 :: t114 :: t115 :: t116 :: t117 :: t118 :: t119 :: t120 :: t121 :: t122 :: t123 :: t124 :: t125 :: t126 :: t127 :: t128 :: t129 :: t130 :: t131 :: t132 :: t133 :: t134 :: t135 :: t136 :: t137 :: t138 :: t139 :: t140 :: t141 :: t142 :: t143 :: t144 :: t145 :: t146 :: t147 :: t148 :: t149 :: t150 :: t151 :: t152 :: t153 :: t154 :: t155 :: t156 :: t157 :: t158 :: t159 :: t160 :: t161 :: t162 :: t163 :: t164 :: t165 :: t166 :: t167 :: t168 :: t169 :: t170 :: t171 :: t172 :: t173 :: t174 :: t175 :: t176 :: t177 :: t178 :: t179 :: t180 :: t181 :: t182 :: t183 :: t184 :: t185 :: t186 :: t187 :: t188 :: t189 :: t190 :: t191 :: t192 :: t193 :: t194 :: t195 :: t196 :: t197 :: t198 :: t199 :: t200 :: t201 :: t202 :: t203 :: t204 :: t205 :: t206 :: t207 :: t208 :: t209 :: t210 :: t211 :: t212 :: t213 :: t214 :: t215 :: t216 :: t217 :: t218 :: t219 :: t220 :: t221 :: t222 :: t223 :: u224 :: u225 :: u226 :: u227 :: u228 :: u229 :: u230 :: u231 :: u232 :: t233 :: t234 :: t235 :: t236 :: t237 :: t238 :: t239 :: t240 :: t241 :: t242 :: t243 :: t244 :: t245 :: t246 :: t247 :: t248 :: t249 :: t250 :: t251 :: t252 :: t253 :: t254 :: t255 :: t256 :: t257 :: t258 :: t259 :: t260 :: []).toArray, []⟩ ((wr.drewN nq).setCell ⟨g, k, none⟩ (U32 (x + y)))) :
  code33.wp Tryd.prog Q ⟨(t0 :: t1 :: t2 :: .pointer (some ⟨g, 0, none⟩) :: t4 :: t5 :: t6 :: t7 :: t8 :: t9 :: t10 :: t11 :: t12 :: t13 :: .pointer (some ⟨g', 0, none⟩) :: t15 :: t16 :: t17 :: t18 :: t19 :: .int .i64 (k : Int) :: t21 :: t22 :: t23 :: t24 :: t25 :: t26 :: t27 :: t28 :: t29 :: t30 :: t31 :: t32 :: t33 :: t34 :: t35 :: t36 :: t37 :: t38 :: t39 :: t40 :: t41 :: t42 :: t43 :: t44 :: t45 :: t46 :: t47 :: t48 :: t49 :: t50 :: t51 :: t52 :: t53 :: t54 :: t55 :: t56 :: t57 :: t58 :: t59 :: t60 :: t61 :: t62 :: t63 :: t64 :: t65 :: t66 :: t67 :: t68 :: t69 :: t70 :: t71 :: t72 :: t73 :: t74 :: t75 :: t76 :: t77 :: t78 :: t79 :: t80 :: t81 :: t82 :: t83 :: t84 :: t85 :: t86 :: t87 :: t88 :: t89 :: t90 :: t91 :: t92 :: t93 :: t94 :: t95 :: t96 :: t97 :: t98 :: t99 :: t100 :: t101 :: t102 :: t103 :: t104 :: t105 :: t106 :: t107 :: t108 :: t109 :: t110 :: t111 :: t112 :: t113 :: t114 :: t115 :: t116 :: t117 :: t118 :: t119 :: t120 :: t121 :: t122 :: t123 :: t124 :: t125 :: t126 :: t127 :: t128 :: t129 :: t130 :: t131 :: t132 :: t133 :: t134 :: t135 :: t136 :: t137 :: t138 :: t139 :: t140 :: t141 :: t142 :: t143 :: t144 :: t145 :: t146 :: t147 :: t148 :: t149 :: t150 :: t151 :: t152 :: t153 :: t154 :: t155 :: t156 :: t157 :: t158 :: t159 :: t160 :: t161 :: t162 :: t163 :: t164 :: t165 :: t166 :: t167 :: t168 :: t169 :: t170 :: t171 :: t172 :: t173 :: t174 :: t175 :: t176 :: t177 :: t178 :: t179 :: t180 :: t181 :: t182 :: t183 :: t184 :: t185 :: t186 :: t187 :: t188 :: t189 :: t190 :: t191 :: t192 :: t193 :: t194 :: t195 :: t196 :: t197 :: t198 :: t199 :: t200 :: t201 :: t202 :: t203 :: t204 :: t205 :: t206 :: t207 :: t208 :: t209 :: t210 :: t211 :: t212 :: t213 :: t214 :: t215 :: t216 :: t217 :: t218 :: t219 :: t220 :: t221 :: t222 :: t223 :: t224 :: t225 :: t226 :: t227 :: t228 :: t229 :: t230 :: t231 :: t232 :: t233 :: t234 :: t235 :: t236 :: t237 :: t238 :: t239 :: t240 :: t241 :: t242 :: t243 :: t244 :: t245 :: t246 :: t247 :: t248 :: t249 :: t250 :: t251 :: t252 :: t253 :: t254 :: t255 :: t256 :: t257 :: t258 :: t259 :: t260 :: []).toArray, []⟩ wr := by
 conv => arg 2; whnf
 refine wp_region_quiet_tail 9 (by kernel_rfl) (by kernel_rfl) ?_
 simp only [List.take_succ_cons, List.take_zero, List.drop_succ_cons, List.drop_zero]
 repeat (go_big_quiet_step (fail))
 refine wpQuiet_nil ?_
 intro nq
 go_wp2
 rw [w_add]
 exact h nq _ _ _ _ _ _ _ _ _

end
section
open Go.RowKit Go.BigFrame
/-- The innermost loop that holds the region of that number. -/
def loopOf (id : Nat) : Code → Option Code
 | .seq a b => match loopOf id a with
  | some c => some c
  | none => loopOf id b
 | .block _ c => loopOf id c
 | .loop c => match loopOf id c with
  | some d => some d
  | none => if (regionOf id c).isSome then some (.loop c) else none
 | .scope c => loopOf id c
 | .cond _ a b => match loopOf id a with
  | some c => some c
  | none => loopOf id b
 | _ => none
theorem grown_then_below {a b c : World} {r : Option Nat} {D : Nat} (h : a.grownBy b r) (k : Below D b c) (hD : a.heap.size ≤ D) : a.grownBy c r :=
 ⟨k.os.trans h.os, k.tape.trans h.tape, k.output.trans h.output, Nat.le_trans h.size k.size, fun i hi hn => (k.block i (by omega)).trans (h.block i hi hn)⟩
theorem st_one8 (s : St) : s.vals.toArray.all (·.oneCell') = true := by
 rw [Array.all_eq_true_iff_forall_mem]
 intro v hv
 exact vals_one s v (by simpa using hv)
theorem rnd_vals (kk ww : UInt32) (q : St) : Hid (Value.agg #[.int .u32 (((q.h + big1 q.e + choice q.e q.f q.g + kk + ww).toNat + (big0 q.a + majority q.a q.b q.c).toNat : Int) % 4294967296), .int .u32 q.a.toNat, .int .u32 q.b.toNat, .int .u32 q.c.toNat, .int .u32 ((q.d.toNat + (q.h + big1 q.e + choice q.e q.f q.g + kk + ww).toNat : Int) % 4294967296), .int .u32 q.e.toNat, .int .u32 q.f.toNat, .int .u32 q.g.toNat] = .agg (rnd kk ww q).vals.toArray) := by
 show _ = _
 rw [w_add, w_add]; rfl
noncomputable def schedLoopCode : Code := ((Tryd.f86.body.bind (loopOf 15)).getD .skip)
set_option maxRecDepth 1000000 in
set_option maxHeartbeats 4000000 in
theorem schedLoop {t0 t1 t2 t3 t4 t6 t7 t11 t12 t13 t14 t15 t16 t17 t18 t19 t20 t21 t22 t23 t24 t25 t26 t27 t28 t29 t30 t31 t32 t33 t34 t35 t36 t37 t38 t39 t40 t41 t42 t43 t44 t45 t46 t47 t48 t49 t50 t51 t52 t53 t54 t55 t56 t57 t58 t59 t60 t61 t62 t63 t64 t65 t66 t67 t68 t69 t70 t71 t72 t73 t74 t75 t76 t77 t78 t79 t80 t81 t82 t83 t84 t85 t86 t87 t88 t89 t90 t91 t92 t93 t94 t95 t96 t97 t98 t99 t100 t101 t102 t103 t104 t105 t106 t107 t108 t109 t110 t111 t112 t113 t114 t115 t116 t117 t118 t119 t120 t121 t122 t123 t124 t125 t126 t127 t128 t129 t130 t131 t132 t133 t134 t135 t136 t137 t138 t139 t140 t141 t142 t143 t144 t145 t146 t147 t148 t149 t150 t151 t152 t153 t154 t155 t156 t157 t158 t159 t160 t161 t162 t163 t164 t165 t166 t167 t168 t169 t170 t171 t172 t173 t174 t175 t176 t177 t178 t179 t180 t181 t182 t183 t184 t185 t186 t187 t188 t189 t190 t191 t192 t193 t194 t195 t196 t197 t198 t199 t200 t201 t202 t203 t204 t205 t206 t207 t208 t209 t210 t211 t212 t213 t214 t215 t216 t217 t218 t219 t220 t221 t222 t223 t224 t225 t226 t227 t228 t229 t230 t231 t232 t233 t234 t235 t236 t237 t238 t239 t240 t241 t242 t243 t244 t245 t246 t247 t248 t249 t250 t251 t252 t253 t254 t255 t256 t257 t258 t259 t260 : Value} (gb n c p G9 D : Nat) (bs : List UInt8) (wr : World) (Q : Exit → Act → World → Prop) (hp : p + 64 ≤ n) (hn : n < 1099511627776) (hgb : gb < D) (hD : D ≤ G9) (hby : ∀ i, i < 64 → wr.cell? ⟨gb, p + i, none⟩ = some (.int .u8 (bs.getD i 0).toNat)) (hW : Blk wr G9 148 ((schedTo bs 0).map U32))
  (h : ∀ (wz : World) (u10 u11 u12 u13 u59 u60 u61 u62 u63 u64 u65 u66 u67 u68 u69 u70 u71 u72 u73 u74 u75 u76 u77 u78 u79 u80 u81 u82 u83 u84 u85 u86 u87 u88 u89 u90 u91 u92 u93 u94 u95 u96 u97 u98 u99 u100 u101 u102 u103 u104 u105 u106 u107 u108 u109 u110 u111 u112 u113 u114 u115 u116 u117 u118 u119 u120 u121 u122 u123 u124 u125 u126 u127 u128 u129 u130 u131 u132 u133 u134 u135 u136 : Value), Blk wz G9 148 ((schedTo bs 64).map U32) → Below D wr wz → Q (.exit 6) ⟨(t0 :: t1 :: t2 :: t3 :: t4 :: .slice (some ⟨gb, 0, none⟩) n c :: t6 :: t7 :: .int .i64 (p : Int) :: .pointer (some ⟨G9, 0, none⟩) :: u10 :: u11 :: u12 :: u13 :: t14 :: t15 :: t16 :: t17 :: t18 :: t19 :: t20 :: t21 :: t22 :: t23 :: t24 :: t25 :: t26 :: t27 :: t28 :: t29 :: t30 :: t31 :: t32 :: t33 :: t34 :: t35 :: t36 :: t37 :: t38 :: t39 :: t40 :: t41 :: t42 :: t43 :: t44 :: t45 :: t46 :: t47 :: t48 :: t49 :: t50 :: t51 :: t52 :: t53 :: t54 :: t55 :: t56 :: t57 :: t58 :: u59 :: u60 :: u61 :: u62 :: u63 :: u64 :: u65 :: u66 :: u67 :: u68 :: u69 :: u70 :: u71 :: u72 :: u73 :: u74 :: u75 :: u76 :: u77 :: u78 :: u79 :: u80 :: u81 :: u82 :: u83 :: u84 :: u85 :: u86 :: u87 :: u88 :: u89 :: u90 :: u91 :: u92 :: u93 :: u94 :: u95 :: u96 :: u97 :: u98 :: u99 :: u100 :: u101 :: u102 :: u103 :: u104 :: u105 :: u106 :: u107 :: u108 :: u109 :: u110 :: u111 :: u112 :: u113 :: u114 :: u115 :: u116 :: u117 :: u118 :: u119 :: u120 :: u121 :: u122 :: u123 :: u124 :: u125 :: u126 :: u127 :: u128 :: u129 :: u130 :: u131 :: u132 :: u133 :: u134 :: u135 :: u136 :: t137 :: t138 :: t139 :: t140 :: t141 :: t142 :: t143 :: t144 :: t145 :: t146 :: t147 :: t148 :: t149 :: t150 :: t151 :: t152 :: t153 :: t154 :: t155 :: t156 :: t157 :: t158 :: t159 :: t160 :: t161 :: t162 :: t163 :: t164 :: t165 :: t166 :: t167 :: t168 :: t169 :: t170 :: t171 :: t172 :: t173 :: t174 :: t175 :: t176 :: t177 :: t178 :: t179 :: t180 :: t181 :: t182 :: t183 :: t184 :: t185 :: t186 :: t187 :: t188 :: t189 :: t190 :: t191 :: t192 :: t193 :: t194 :: t195 :: t196 :: t197 :: t198 :: t199 :: t200 :: t201 :: t202 :: t203 :: t204 :: t205 :: t206 :: t207 :: t208 :: t209 :: t210 :: t211 :: t212 :: t213 :: t214 :: t215 :: t216 :: t217 :: t218 :: t219 :: t220 :: t221 :: t222 :: t223 :: t224 :: t225 :: t226 :: t227 :: t228 :: t229 :: t230 :: t231 :: t232 :: t233 :: t234 :: t235 :: t236 :: t237 :: t238 :: t239 :: t240 :: t241 :: t242 :: t243 :: t244 :: t245 :: t246 :: t247 :: t248 :: t249 :: t250 :: t251 :: t252 :: t253 :: t254 :: t255 :: t256 :: t257 :: t258 :: t259 :: t260 :: []).toArray, []⟩ wz) :
  schedLoopCode.wp Tryd.prog Q ⟨(t0 :: t1 :: t2 :: t3 :: t4 :: .slice (some ⟨gb, 0, none⟩) n c :: t6 :: t7 :: .int .i64 (p : Int) :: .pointer (some ⟨G9, 0, none⟩) :: .int .i64 0 :: t11 :: t12 :: t13 :: t14 :: t15 :: t16 :: t17 :: t18 :: t19 :: t20 :: t21 :: t22 :: t23 :: t24 :: t25 :: t26 :: t27 :: t28 :: t29 :: t30 :: t31 :: t32 :: t33 :: t34 :: t35 :: t36 :: t37 :: t38 :: t39 :: t40 :: t41 :: t42 :: t43 :: t44 :: t45 :: t46 :: t47 :: t48 :: t49 :: t50 :: t51 :: t52 :: t53 :: t54 :: t55 :: t56 :: t57 :: t58 :: t59 :: t60 :: t61 :: t62 :: t63 :: t64 :: t65 :: t66 :: t67 :: t68 :: t69 :: t70 :: t71 :: t72 :: t73 :: t74 :: t75 :: t76 :: t77 :: t78 :: t79 :: t80 :: t81 :: t82 :: t83 :: t84 :: t85 :: t86 :: t87 :: t88 :: t89 :: t90 :: t91 :: t92 :: t93 :: t94 :: t95 :: t96 :: t97 :: t98 :: t99 :: t100 :: t101 :: t102 :: t103 :: t104 :: t105 :: t106 :: t107 :: t108 :: t109 :: t110 :: t111 :: t112 :: t113 :: t114 :: t115 :: t116 :: t117 :: t118 :: t119 :: t120 :: t121 :: t122 :: t123 :: t124 :: t125 :: t126 :: t127 :: t128 :: t129 :: t130 :: t131 :: t132 :: t133 :: t134 :: t135 :: t136 :: t137 :: t138 :: t139 :: t140 :: t141 :: t142 :: t143 :: t144 :: t145 :: t146 :: t147 :: t148 :: t149 :: t150 :: t151 :: t152 :: t153 :: t154 :: t155 :: t156 :: t157 :: t158 :: t159 :: t160 :: t161 :: t162 :: t163 :: t164 :: t165 :: t166 :: t167 :: t168 :: t169 :: t170 :: t171 :: t172 :: t173 :: t174 :: t175 :: t176 :: t177 :: t178 :: t179 :: t180 :: t181 :: t182 :: t183 :: t184 :: t185 :: t186 :: t187 :: t188 :: t189 :: t190 :: t191 :: t192 :: t193 :: t194 :: t195 :: t196 :: t197 :: t198 :: t199 :: t200 :: t201 :: t202 :: t203 :: t204 :: t205 :: t206 :: t207 :: t208 :: t209 :: t210 :: t211 :: t212 :: t213 :: t214 :: t215 :: t216 :: t217 :: t218 :: t219 :: t220 :: t221 :: t222 :: t223 :: t224 :: t225 :: t226 :: t227 :: t228 :: t229 :: t230 :: t231 :: t232 :: t233 :: t234 :: t235 :: t236 :: t237 :: t238 :: t239 :: t240 :: t241 :: t242 :: t243 :: t244 :: t245 :: t246 :: t247 :: t248 :: t249 :: t250 :: t251 :: t252 :: t253 :: t254 :: t255 :: t256 :: t257 :: t258 :: t259 :: t260 :: []).toArray, []⟩ wr := by
 conv => arg 2; whnf
 go_loopw [10] (fun i w6 => ∃ k : Nat, k ≤ 64 ∧ i = .int .i64 (k : Int) ∧ Blk w6 G9 148 ((schedTo bs k).map U32) ∧ Below D wr w6) (fun i _ => 64 - (intOf i).toNat)
 case atStart => exact ⟨0, by omega, rfl, hW, Below.refl _ _⟩
 case round =>
  clear hW
  obtain ⟨k, hk, rfl, hW, hb⟩ := hrel
  by_cases hk64 : k < 64
  ·
   have hd : decide ((k : Int) < 64) = true := by simp; omega
   have hsl := schedTo_length bs k
   by_cases hk16 : k < 16
   ·
    have hd2 : decide ((k : Int) < 16) = true := by simp; omega
    have HLW := Lib.hid (schedTo_low bs k hk16)
    have c0 := (hb.cell (p := ⟨gb, p + (4 * k), none⟩) hgb).trans (hby (4 * k) (by omega))
    have c1 := (hb.cell (p := ⟨gb, p + (4 * k + 1), none⟩) hgb).trans (hby (4 * k + 1) (by omega))
    have c2 := (hb.cell (p := ⟨gb, p + (4 * k + 2), none⟩) hgb).trans (hby (4 * k + 2) (by omega))
    have c3 := (hb.cell (p := ⟨gb, p + (4 * k + 3), none⟩) hgb).trans (hby (4 * k + 3) (by omega))
    obtain ⟨x, hx⟩ : ∃ x, x = p + 4 * k := ⟨_, rfl⟩
    have hxi : (p : Int) + 4 * (k : Int) = (x : Int) := by omega
    simp only [← Nat.add_assoc, ← hx] at c0 c1 c2 c3
    have b3 : x + 3 < n := by omega
    have cw := hW.at32 k (by omega)
    have cf := hW.frozen k
    clear hsl hx
    go_wp2
    clear hxi
    refine reg19 gb G9 n c k x _ _ _ _ _ _ _ hk64 b3 hn c0 c1 c2 c3 cw cf ?_
    intros
    rename_i nq _ _ _ _ _ _ _ _ _ _ _ _ _ _ _ _ _ _ _ _ _ _ _ _ _ _ _ _ _ _ _
    go_wp2
    go_roundw
    case rel =>
     refine ⟨k + 1, by omega, by go_num, ?_, (below_drewN hb nq).setCell hD _⟩
     rw [HLW.out, ← map_set32]
     exact (hW.drewN nq).set_ k _
    case measure => simp [intOf]; omega
   ·
    have hd2 : decide ((k : Int) < 16) = false := by simp; omega
    have hk0 : 16 ≤ k := by omega
    have HLW := Lib.hid (schedTo_high bs k hk16)
    have c15 := hW.at32 (k - 15) (by omega)
    have c2 := hW.at32 (k - 2) (by omega)
    have c16 := hW.at32 (k - 16) (by omega)
    have c7 := hW.at32 (k - 7) (by omega)
    have cw := hW.at32 k (by omega)
    have cf := hW.frozen k
    clear hk16 hsl
    go_wp2
    refine reg20 G9 k _ _ _ _ hk0 hk64 c15 c2 ?_
    intros
    rename_i nq _ _ _ _ _ _ _ _
    go_wp2
    refine reg21 G9 k _ _ _ _ _ _ _ hk0 hk64 c16 c7 cw cf ?_
    intros
    rename_i nq2 _ _ _ _ _ _ _ _ _ _ _ _ _ _ _ _ _ _ _ _ _ _ _ _ _ _ _ _ _
    go_wp2
    go_roundw
    case rel =>
     refine ⟨k + 1, by omega, by go_num, ?_, (below_drewN hb (nq + nq2)).setCell hD _⟩
     rw [HLW.out, ← map_set32]
     simp only [List.getD_eq_getElem?_getD]
     exact (hW.drewN (nq + nq2)).set_ k _
    case measure => simp [intOf]; omega
  ·
   have hd : decide ((k : Int) < 64) = false := by simp; omega
   obtain rfl : k = 64 := by omega
   go_wp2
   exact h _ _ _ _ _ _ _ _ _ _ _ _ _ _ _ _ _ _ _ _ _ _ _ _ _ _ _ _ _ _ _ _ _ _ _ _ _ _ _ _ _ _ _ _ _ _ _ _ _ _ _ _ _ _ _ _ _ _ _ _ _ _ _ _ _ _ _ _ _ _ _ _ _ _ _ _ _ _ _ _ _ _ _ hW hb

noncomputable def roundLoopCode : Code := ((Tryd.f86.body.bind (loopOf 24)).getD .skip)
set_option maxRecDepth 1000000 in
set_option maxHeartbeats 4000000 in
theorem roundLoop {t0 t1 t2 t3 t5 t6 t7 t8 t10 t11 t12 t13 t16 t17 t18 t19 t20 t21 t22 t23 t24 t25 t26 t27 t28 t29 t30 t31 t32 t33 t34 t35 t36 t37 t38 t39 t40 t41 t42 t43 t44 t45 t46 t47 t48 t49 t50 t51 t52 t53 t54 t55 t56 t57 t58 t59 t60 t61 t62 t63 t64 t65 t66 t67 t68 t69 t70 t71 t72 t73 t74 t75 t76 t77 t78 t79 t80 t81 t82 t83 t84 t85 t86 t87 t88 t89 t90 t91 t92 t93 t94 t95 t96 t97 t98 t99 t100 t101 t102 t103 t104 t105 t106 t107 t108 t109 t110 t111 t112 t113 t114 t115 t116 t117 t118 t119 t120 t121 t122 t123 t124 t125 t126 t127 t128 t129 t130 t131 t132 t133 t134 t135 t136 t137 t138 t139 t140 t141 t142 t143 t144 t145 t146 t147 t148 t149 t150 t151 t152 t153 t154 t155 t156 t157 t158 t159 t160 t161 t162 t163 t164 t165 t166 t167 t168 t169 t170 t171 t172 t173 t174 t175 t176 t177 t178 t179 t180 t181 t182 t183 t184 t185 t186 t187 t188 t189 t190 t191 t192 t193 t194 t195 t196 t197 t198 t199 t200 t201 t202 t203 t204 t205 t206 t207 t208 t209 t210 t211 t212 t213 t214 t215 t216 t217 t218 t219 t220 t221 t222 t223 t224 t225 t226 t227 t228 t229 t230 t231 t232 t233 t234 t235 t236 t237 t238 t239 t240 t241 t242 t243 t244 t245 t246 t247 t248 t249 t250 t251 t252 t253 t254 t255 t256 t257 t258 t259 t260 : Value} (gk gw g D : Nat) (W : List UInt32) (s : St) (wr : World) (Q : Exit → Act → World → Prop) (hgk : gk < D) (hgw : gw < D) (hD : D ≤ g) (hk : ∀ i, i < 64 → wr.cell? ⟨gk, i, none⟩ = some (.int .u32 (kTab.getD i 0).toNat)) (hw : ∀ i, i < 64 → wr.cell? ⟨gw, i, none⟩ = some (.int .u32 (W.getD i 0).toNat)) (hs : Blk wr g 127 s.vals) (hsz : D ≤ wr.heap.size)
  (h : ∀ (wz : World) (u15 u16 u17 u18 u19 u138 u139 u140 u141 u142 u143 u144 u145 u146 u147 u148 u149 u150 u151 u152 u153 u154 u155 u156 u157 u158 u159 u160 u161 u162 u163 u164 u165 u166 u167 u168 u169 u170 u171 u172 u173 u174 u175 u176 u177 u178 u179 u180 u181 u182 u183 u184 u185 u186 u187 u188 u189 u190 u191 u192 u193 u194 u195 u196 u197 u198 u199 u200 u201 u202 u203 u204 u205 u206 u207 u208 u209 u210 u211 u212 u213 u214 u215 u216 u217 u218 u219 : Value), Blk wz g 127 (rnds W 64 s).vals → Below D wr wz → Q (.exit 8) ⟨(t0 :: t1 :: t2 :: t3 :: .pointer (some ⟨gk, 0, none⟩) :: t5 :: t6 :: t7 :: t8 :: .pointer (some ⟨gw, 0, none⟩) :: t10 :: t11 :: t12 :: t13 :: .pointer (some ⟨g, 0, none⟩) :: u15 :: u16 :: u17 :: u18 :: u19 :: t20 :: t21 :: t22 :: t23 :: t24 :: t25 :: t26 :: t27 :: t28 :: t29 :: t30 :: t31 :: t32 :: t33 :: t34 :: t35 :: t36 :: t37 :: t38 :: t39 :: t40 :: t41 :: t42 :: t43 :: t44 :: t45 :: t46 :: t47 :: t48 :: t49 :: t50 :: t51 :: t52 :: t53 :: t54 :: t55 :: t56 :: t57 :: t58 :: t59 :: t60 :: t61 :: t62 :: t63 :: t64 :: t65 :: t66 :: t67 :: t68 :: t69 :: t70 :: t71 :: t72 :: t73 :: t74 :: t75 :: t76 :: t77 :: t78 :: t79 :: t80 :: t81 :: t82 :: t83 :: t84 :: t85 :: t86 :: t87 :: t88 :: t89 :: t90 :: t91 :: t92 :: t93 :: t94 :: t95 :: t96 :: t97 :: t98 :: t99 :: t100 :: t101 :: t102 :: t103 :: t104 :: t105 :: t106 :: t107 :: t108 :: t109 :: t110 :: t111 :: t112 :: t113 :: t114 :: t115 :: t116 :: t117 :: t118 :: t119 :: t120 :: t121 :: t122 :: t123 :: t124 :: t125 :: t126 :: t127 :: t128 :: t129 :: t130 :: t131 :: t132 :: t133 :: t134 :: t135 :: t136 :: t137 :: u138 :: u139 :: u140 :: u141 :: u142 :: u143 :: u144 :: u145 :: u146 :: u147 :: u148 :: u149 :: u150 :: u151 :: u152 :: u153 :: u154 :: u155 :: u156 :: u157 :: u158 :: u159 :: u160 :: u161 :: u162 :: u163 :: u164 :: u165 :: u166 :: u167 :: u168 :: u169 :: u170 :: u171 :: u172 :: u173 :: u174 :: u175 :: u176 :: u177 :: u178 :: u179 :: u180 :: u181 :: u182 :: u183 :: u184 :: u185 :: u186 :: u187 :: u188 :: u189 :: u190 :: u191 :: u192 :: u193 :: u194 :: u195 :: u196 :: u197 :: u198 :: u199 :: u200 :: u201 :: u202 :: u203 :: u204 :: u205 :: u206 :: u207 :: u208 :: u209 :: u210 :: u211 :: u212 :: u213 :: u214 :: u215 :: u216 :: u217 :: u218 :: u219 :: t220 :: t221 :: t222 :: t223 :: t224 :: t225 :: t226 :: t227 :: t228 :: t229 :: t230 :: t231 :: t232 :: t233 :: t234 :: t235 :: t236 :: t237 :: t238 :: t239 :: t240 :: t241 :: t242 :: t243 :: t244 :: t245 :: t246 :: t247 :: t248 :: t249 :: t250 :: t251 :: t252 :: t253 :: t254 :: t255 :: t256 :: t257 :: t258 :: t259 :: t260 :: []).toArray, []⟩ wz) :
  roundLoopCode.wp Tryd.prog Q ⟨(t0 :: t1 :: t2 :: t3 :: .pointer (some ⟨gk, 0, none⟩) :: t5 :: t6 :: t7 :: t8 :: .pointer (some ⟨gw, 0, none⟩) :: t10 :: t11 :: t12 :: t13 :: .pointer (some ⟨g, 0, none⟩) :: .int .i64 0 :: t16 :: t17 :: t18 :: t19 :: t20 :: t21 :: t22 :: t23 :: t24 :: t25 :: t26 :: t27 :: t28 :: t29 :: t30 :: t31 :: t32 :: t33 :: t34 :: t35 :: t36 :: t37 :: t38 :: t39 :: t40 :: t41 :: t42 :: t43 :: t44 :: t45 :: t46 :: t47 :: t48 :: t49 :: t50 :: t51 :: t52 :: t53 :: t54 :: t55 :: t56 :: t57 :: t58 :: t59 :: t60 :: t61 :: t62 :: t63 :: t64 :: t65 :: t66 :: t67 :: t68 :: t69 :: t70 :: t71 :: t72 :: t73 :: t74 :: t75 :: t76 :: t77 :: t78 :: t79 :: t80 :: t81 :: t82 :: t83 :: t84 :: t85 :: t86 :: t87 :: t88 :: t89 :: t90 :: t91 :: t92 :: t93 :: t94 :: t95 :: t96 :: t97 :: t98 :: t99 :: t100 :: t101 :: t102 :: t103 :: t104 :: t105 :: t106 :: t107 :: t108 :: t109 :: t110 :: t111 :: t112 :: t113 :: t114 :: t115 :: t116 :: t117 :: t118 :: t119 :: t120 :: t121 :: t122 :: t123 :: t124 :: t125 :: t126 :: t127 :: t128 :: t129 :: t130 :: t131 :: t132 :: t133 :: t134 :: t135 :: t136 :: t137 :: t138 :: t139 :: t140 :: t141 :: t142 :: t143 :: t144 :: t145 :: t146 :: t147 :: t148 :: t149 :: t150 :: t151 :: t152 :: t153 :: t154 :: t155 :: t156 :: t157 :: t158 :: t159 :: t160 :: t161 :: t162 :: t163 :: t164 :: t165 :: t166 :: t167 :: t168 :: t169 :: t170 :: t171 :: t172 :: t173 :: t174 :: t175 :: t176 :: t177 :: t178 :: t179 :: t180 :: t181 :: t182 :: t183 :: t184 :: t185 :: t186 :: t187 :: t188 :: t189 :: t190 :: t191 :: t192 :: t193 :: t194 :: t195 :: t196 :: t197 :: t198 :: t199 :: t200 :: t201 :: t202 :: t203 :: t204 :: t205 :: t206 :: t207 :: t208 :: t209 :: t210 :: t211 :: t212 :: t213 :: t214 :: t215 :: t216 :: t217 :: t218 :: t219 :: t220 :: t221 :: t222 :: t223 :: t224 :: t225 :: t226 :: t227 :: t228 :: t229 :: t230 :: t231 :: t232 :: t233 :: t234 :: t235 :: t236 :: t237 :: t238 :: t239 :: t240 :: t241 :: t242 :: t243 :: t244 :: t245 :: t246 :: t247 :: t248 :: t249 :: t250 :: t251 :: t252 :: t253 :: t254 :: t255 :: t256 :: t257 :: t258 :: t259 :: t260 :: []).toArray, []⟩ wr := by
 conv => arg 2; whnf
 have HI := info63r
 go_loopw [15] (fun i w6 => ∃ (k : Nat) (q : St), k ≤ 64 ∧ i = .int .i64 (k : Int) ∧ Hid (q = rnds W k s) ∧ Blk w6 g 127 q.vals ∧ Below D wr w6) (fun i _ => 64 - (intOf i).toNat)
 case atStart => exact ⟨0, s, by omega, rfl, (show _ = _ from rfl), hs, Below.refl _ _⟩
 case round =>
  clear hs
  obtain ⟨k, q, hk64, rfl, HQ, hs, hb⟩ := hrel
  by_cases hlt : k < 64
  ·
   have hd : decide ((k : Int) < 64) = true := by simp; omega
   have ck := (hb.cell (p := ⟨gk, k, none⟩) hgk).trans (hk k hlt)
   have cw := (hb.cell (p := ⟨gw, k, none⟩) hgw).trans (hw k hlt)
   obtain ⟨kk, hkk⟩ : ∃ x, x = kTab.getD k 0 := ⟨_, rfl⟩
   obtain ⟨ww, hww⟩ : ∃ x, x = W.getD k 0 := ⟨_, rfl⟩
   rw [← hkk] at ck
   rw [← hww] at cw
   have HKK := Lib.hid hkk
   have HWW := Lib.hid hww
   clear hkk hww
   have c0 : World.cell? _ ⟨g, 0, none⟩ = some (.int .u32 q.a.toNat) := hs.cell 0
   have c1 : World.cell? _ ⟨g, 1, none⟩ = some (.int .u32 q.b.toNat) := hs.cell 1
   have c2 : World.cell? _ ⟨g, 2, none⟩ = some (.int .u32 q.c.toNat) := hs.cell 2
   have c3 : World.cell? _ ⟨g, 3, none⟩ = some (.int .u32 q.d.toNat) := hs.cell 3
   have c4 : World.cell? _ ⟨g, 4, none⟩ = some (.int .u32 q.e.toNat) := hs.cell 4
   have c5 : World.cell? _ ⟨g, 5, none⟩ = some (.int .u32 q.f.toNat) := hs.cell 5
   have c6 : World.cell? _ ⟨g, 6, none⟩ = some (.int .u32 q.g.toNat) := hs.cell 6
   have c7 : World.cell? _ ⟨g, 7, none⟩ = some (.int .u32 q.h.toNat) := hs.cell 7
   go_wp2
   refine reg26 g q _ _ c0 c4 ?_
   intros
   rename_i n1 _ _ _ _
   go_wp2
   refine reg27 g gk gw k q _ _ _ _ hlt c5 c6 c7 ck cw ?_
   intros
   rename_i n2 _ _ _ _ _ _ _ _ _ _ _ _ _ _ _ _ _ _ _ _ _ _ _ _ _ _ _ _ _ _
   go_wp2
   refine reg28 g q _ _ c1 c2 ?_
   intros
   rename_i n3 _ _ _ _ _ _ _ _ _ _ _ _ _ _ _ _ _ _ _ _ _ _ _ _
   have hs3 := ((hs.drewN n1).drewN n2).drewN n3
   have hb3 := below_drewN (below_drewN (below_drewN hb n1) n2) n3
   generalize ((World.drewN _ n1).drewN n2).drewN n3 = w9 at *
   clear ck cw c0 c1 c2 c3 c4 c5 c6 c7
   have c0 : w9.cell? ⟨g, 0, none⟩ = some (.int .u32 q.a.toNat) := hs3.cell 0
   have c1 : w9.cell? ⟨g, 1, none⟩ = some (.int .u32 q.b.toNat) := hs3.cell 1
   have c2 : w9.cell? ⟨g, 2, none⟩ = some (.int .u32 q.c.toNat) := hs3.cell 2
   have c3 : w9.cell? ⟨g, 3, none⟩ = some (.int .u32 q.d.toNat) := hs3.cell 3
   have c4 : w9.cell? ⟨g, 4, none⟩ = some (.int .u32 q.e.toNat) := hs3.cell 4
   have c5 : w9.cell? ⟨g, 5, none⟩ = some (.int .u32 q.f.toNat) := hs3.cell 5
   have c6 : w9.cell? ⟨g, 6, none⟩ = some (.int .u32 q.g.toNat) := hs3.cell 6
   have HV := rnd_vals kk ww q
   generalize q.h + big1 q.e + choice q.e q.f q.g + kk + ww = T1 at *
   generalize big0 q.a + majority q.a q.b q.c = T2 at *
   go_wp2_with ((with_reducible refine (?_ : wpList _ _ _ (Oper.mk none (.store 127 _ _) _ _ _ _ :: _) _ _)); go_loud (refine wpList_store_blk rfl 127 (.tmp 14) (.tmp 219) rfl rfl g (rnd kk ww q).vals rfl HV.out 127 _ hs3 HI rfl (st_one8 _) ?_); intro w10 hs4 hg4)
   go_roundw
   case rel =>
    refine ⟨k + 1, rnd kk ww q, by omega, by go_num, ?_, hs4, hb3.trans (grown_below hg4 hD (Nat.le_trans hsz hb3.size))⟩
    show _ = _
    rw [HQ.out, HKK.out, HWW.out]; rfl
   case measure => simp [intOf]; omega
  ·
   have hd : decide ((k : Int) < 64) = false := by simp; omega
   obtain rfl : k = 64 := by omega
   go_wp2
   rw [HQ.out] at hs
   exact h _ _ _ _ _ _ _ _ _ _ _ _ _ _ _ _ _ _ _ _ _ _ _ _ _ _ _ _ _ _ _ _ _ _ _ _ _ _ _ _ _ _ _ _ _ _ _ _ _ _ _ _ _ _ _ _ _ _ _ _ _ _ _ _ _ _ _ _ _ _ _ _ _ _ _ _ _ _ _ _ _ _ _ _ _ _ _ _ hs hb

noncomputable def addLoopCode : Code := ((Tryd.f86.body.bind (loopOf 31)).getD .skip)
set_option maxRecDepth 1000000 in
set_option maxHeartbeats 4000000 in
theorem addLoop {t0 t1 t2 t4 t5 t6 t7 t8 t9 t10 t11 t12 t13 t15 t16 t17 t18 t19 t21 t22 t23 t24 t25 t26 t27 t28 t29 t30 t31 t32 t33 t34 t35 t36 t37 t38 t39 t40 t41 t42 t43 t44 t45 t46 t47 t48 t49 t50 t51 t52 t53 t54 t55 t56 t57 t58 t59 t60 t61 t62 t63 t64 t65 t66 t67 t68 t69 t70 t71 t72 t73 t74 t75 t76 t77 t78 t79 t80 t81 t82 t83 t84 t85 t86 t87 t88 t89 t90 t91 t92 t93 t94 t95 t96 t97 t98 t99 t100 t101 t102 t103 t104 t105 t106 t107 t108 t109 t110 t111 t112 t113 t114 t115 t116 t117 t118 t119 t120 t121 t122 t123 t124 t125 t126 t127 t128 t129 t130 t131 t132 t133 t134 t135 t136 t137 t138 t139 t140 t141 t142 t143 t144 t145 t146 t147 t148 t149 t150 t151 t152 t153 t154 t155 t156 t157 t158 t159 t160 t161 t162 t163 t164 t165 t166 t167 t168 t169 t170 t171 t172 t173 t174 t175 t176 t177 t178 t179 t180 t181 t182 t183 t184 t185 t186 t187 t188 t189 t190 t191 t192 t193 t194 t195 t196 t197 t198 t199 t200 t201 t202 t203 t204 t205 t206 t207 t208 t209 t210 t211 t212 t213 t214 t215 t216 t217 t218 t219 t220 t221 t222 t223 t224 t225 t226 t227 t228 t229 t230 t231 t232 t233 t234 t235 t236 t237 t238 t239 t240 t241 t242 t243 t244 t245 t246 t247 t248 t249 t250 t251 t252 t253 t254 t255 t256 t257 t258 t259 t260 : Value} (g g' : Nat) (s q : St) (wr : World) (Q : Exit → Act → World → Prop) (hne : g' ≠ g) (hs : Blk wr g 127 (s.words.map U32)) (hq : Blk wr g' 127 (q.words.map U32))
  (h : ∀ (wz : World) (u20 u220 u221 u222 u223 u224 u225 u226 u227 u228 u229 u230 u231 u232 : Value), Blk wz g 127 ((addSt s q).words.map U32) → wr.grownBy wz (some g) → Q (.exit 10) ⟨(t0 :: t1 :: t2 :: .pointer (some ⟨g, 0, none⟩) :: t4 :: t5 :: t6 :: t7 :: t8 :: t9 :: t10 :: t11 :: t12 :: t13 :: .pointer (some ⟨g', 0, none⟩) :: t15 :: t16 :: t17 :: t18 :: t19 :: u20 :: t21 :: t22 :: t23 :: t24 :: t25 :: t26 :: t27 :: t28 :: t29 :: t30 :: t31 :: t32 :: t33 :: t34 :: t35 :: t36 :: t37 :: t38 :: t39 :: t40 :: t41 :: t42 :: t43 :: t44 :: t45 :: t46 :: t47 :: t48 :: t49 :: t50 :: t51 :: t52 :: t53 :: t54 :: t55 :: t56 :: t57 :: t58 :: t59 :: t60 :: t61 :: t62 :: t63 :: t64 :: t65 :: t66 :: t67 :: t68 :: t69 :: t70 :: t71 :: t72 :: t73 :: t74 :: t75 :: t76 :: t77 :: t78 :: t79 :: t80 :: t81 :: t82 :: t83 :: t84 :: t85 :: t86 :: t87 :: t88 :: t89 :: t90 :: t91 :: t92 :: t93 :: t94 :: t95 :: t96 :: t97 :: t98 :: t99 :: t100 :: t101 :: t102 :: t103 :: t104 :: t105 :: t106 :: t107 :: t108 :: t109 :: t110 :: t111 :: t112 :: t113 :: t114 :: t115 :: t116 :: t117 :: t118 :: t119 :: t120 :: t121 :: t122 :: t123 :: t124 :: t125 :: t126 :: t127 :: t128 :: t129 :: t130 :: t131 :: t132 :: t133 :: t134 :: t135 :: t136 :: t137 :: t138 :: t139 :: t140 :: t141 :: t142 :: t143 :: t144 :: t145 :: t146 :: t147 :: t148 :: t149 :: t150 :: t151 :: t152 :: t153 :: t154 :: t155 :: t156 :: t157 :: t158 :: t159 :: t160 :: t161 :: t162 :: t163 :: t164 :: t165 :: t166 :: t167 :: t168 :: t169 :: t170 :: t171 :: t172 :: t173 :: t174 :: t175 :: t176 :: t177 :: t178 :: t179 :: t180 :: t181 :: t182 :: t183 :: t184 :: t185 :: t186 :: t187 :: t188 :: t189 :: t190 :: t191 :: t192 :: t193 :: t194 :: t195 :: t196 :: t197 :: t198 :: t199 :: t200 :: t201 :: t202 :: t203 :: t204 :: t205 :: t206 :: t207 :: t208 :: t209 :: t210 :: t211 :: t212 :: t213 :: t214 :: t215 :: t216 :: t217 :: t218 :: t219 :: u220 :: u221 :: u222 :: u223 :: u224 :: u225 :: u226 :: u227 :: u228 :: u229 :: u230 :: u231 :: u232 :: t233 :: t234 :: t235 :: t236 :: t237 :: t238 :: t239 :: t240 :: t241 :: t242 :: t243 :: t244 :: t245 :: t246 :: t247 :: t248 :: t249 :: t250 :: t251 :: t252 :: t253 :: t254 :: t255 :: t256 :: t257 :: t258 :: t259 :: t260 :: []).toArray, []⟩ wz) :
  addLoopCode.wp Tryd.prog Q ⟨(t0 :: t1 :: t2 :: .pointer (some ⟨g, 0, none⟩) :: t4 :: t5 :: t6 :: t7 :: t8 :: t9 :: t10 :: t11 :: t12 :: t13 :: .pointer (some ⟨g', 0, none⟩) :: t15 :: t16 :: t17 :: t18 :: t19 :: .int .i64 0 :: t21 :: t22 :: t23 :: t24 :: t25 :: t26 :: t27 :: t28 :: t29 :: t30 :: t31 :: t32 :: t33 :: t34 :: t35 :: t36 :: t37 :: t38 :: t39 :: t40 :: t41 :: t42 :: t43 :: t44 :: t45 :: t46 :: t47 :: t48 :: t49 :: t50 :: t51 :: t52 :: t53 :: t54 :: t55 :: t56 :: t57 :: t58 :: t59 :: t60 :: t61 :: t62 :: t63 :: t64 :: t65 :: t66 :: t67 :: t68 :: t69 :: t70 :: t71 :: t72 :: t73 :: t74 :: t75 :: t76 :: t77 :: t78 :: t79 :: t80 :: t81 :: t82 :: t83 :: t84 :: t85 :: t86 :: t87 :: t88 :: t89 :: t90 :: t91 :: t92 :: t93 :: t94 :: t95 :: t96 :: t97 :: t98 :: t99 :: t100 :: t101 :: t102 :: t103 :: t104 :: t105 :: t106 :: t107 :: t108 :: t109 :: t110 :: t111 :: t112 :: t113 :: t114 :: t115 :: t116 :: t117 :: t118 :: t119 :: t120 :: t121 :: t122 :: t123 :: t124 :: t125 :: t126 :: t127 :: t128 :: t129 :: t130 :: t131 :: t132 :: t133 :: t134 :: t135 :: t136 :: t137 :: t138 :: t139 :: t140 :: t141 :: t142 :: t143 :: t144 :: t145 :: t146 :: t147 :: t148 :: t149 :: t150 :: t151 :: t152 :: t153 :: t154 :: t155 :: t156 :: t157 :: t158 :: t159 :: t160 :: t161 :: t162 :: t163 :: t164 :: t165 :: t166 :: t167 :: t168 :: t169 :: t170 :: t171 :: t172 :: t173 :: t174 :: t175 :: t176 :: t177 :: t178 :: t179 :: t180 :: t181 :: t182 :: t183 :: t184 :: t185 :: t186 :: t187 :: t188 :: t189 :: t190 :: t191 :: t192 :: t193 :: t194 :: t195 :: t196 :: t197 :: t198 :: t199 :: t200 :: t201 :: t202 :: t203 :: t204 :: t205 :: t206 :: t207 :: t208 :: t209 :: t210 :: t211 :: t212 :: t213 :: t214 :: t215 :: t216 :: t217 :: t218 :: t219 :: t220 :: t221 :: t222 :: t223 :: t224 :: t225 :: t226 :: t227 :: t228 :: t229 :: t230 :: t231 :: t232 :: t233 :: t234 :: t235 :: t236 :: t237 :: t238 :: t239 :: t240 :: t241 :: t242 :: t243 :: t244 :: t245 :: t246 :: t247 :: t248 :: t249 :: t250 :: t251 :: t252 :: t253 :: t254 :: t255 :: t256 :: t257 :: t258 :: t259 :: t260 :: []).toArray, []⟩ wr := by
 conv => arg 2; whnf
 go_loopw [20] (fun i w6 => ∃ k : Nat, k ≤ 8 ∧ i = .int .i64 (k : Int) ∧ Blk w6 g 127 ((addL s.words q.words k).map U32) ∧ wr.grownBy w6 (some g)) (fun i _ => 8 - (intOf i).toNat)
 case atStart => exact ⟨0, by omega, rfl, hs, grown_refl _ _⟩
 case round =>
  clear hs
  obtain ⟨k, hk, rfl, hs, hb⟩ := hrel
  by_cases hlt : k < 8
  ·
   have hd : decide ((k : Int) < 8) = true := by simp; omega
   have hsl : (addL s.words q.words k).length = 8 := (addL_length _ _ _).trans rfl
   have c0 := hs.at32 k (by omega)
   rw [addL_ge s.words q.words k k (Nat.le_refl _)] at c0
   have cf := hs.frozen k
   have c1 := (hq.grown hb (by simpa using hne)).at32 k (by show k < 8; omega)
   obtain ⟨x, hx⟩ : ∃ x, x = s.words.getD k 0 := ⟨_, rfl⟩
   obtain ⟨y, hy⟩ : ∃ y, y = q.words.getD k 0 := ⟨_, rfl⟩
   rw [← hx] at c0
   rw [← hy] at c1
   have HX := Lib.hid hx
   have HY := Lib.hid hy
   clear hsl hx hy
   go_wp2
   refine reg33 g g' k _ _ _ _ hlt c0 cf c1 ?_
   intros
   rename_i nq _ _ _ _ _ _ _ _ _
   go_wp2
   go_roundw
   case rel =>
    refine ⟨k + 1, by omega, by go_num, ?_, grown_setCell (grown_drewN hb nq) (.inl rfl) _⟩
    rw [addL, ← HX.out, ← HY.out, ← map_set32]
    exact (hs.drewN nq).set_ k _
   case measure => simp [intOf]; omega
  ·
   have hd : decide ((k : Int) < 8) = false := by simp; omega
   obtain rfl : k = 8 := by omega
   rw [addL_all] at hs
   go_wp2
   exact h _ _ _ _ _ _ _ _ _ _ _ _ _ _ _ hs hb

end
section
open Go.RowKit Go.BigFrame
noncomputable def blockLoopCode : Code := ((Tryd.f86.body.bind (loopOf 11)).getD .skip)
set_option maxRecDepth 1000000 in
set_option maxHeartbeats 4000000 in
theorem blockLoop {t0 t1 t2 t6 t7 t9 t10 t11 t12 t13 t14 t15 t16 t17 t18 t19 t20 t21 t22 t23 t24 t25 t26 t27 t28 t29 t30 t31 t32 t33 t34 t35 t36 t37 t38 t39 t40 t41 t42 t43 t44 t45 t46 t47 t48 t49 t50 t51 t52 t53 t54 t55 t56 t57 t58 t59 t60 t61 t62 t63 t64 t65 t66 t67 t68 t69 t70 t71 t72 t73 t74 t75 t76 t77 t78 t79 t80 t81 t82 t83 t84 t85 t86 t87 t88 t89 t90 t91 t92 t93 t94 t95 t96 t97 t98 t99 t100 t101 t102 t103 t104 t105 t106 t107 t108 t109 t110 t111 t112 t113 t114 t115 t116 t117 t118 t119 t120 t121 t122 t123 t124 t125 t126 t127 t128 t129 t130 t131 t132 t133 t134 t135 t136 t137 t138 t139 t140 t141 t142 t143 t144 t145 t146 t147 t148 t149 t150 t151 t152 t153 t154 t155 t156 t157 t158 t159 t160 t161 t162 t163 t164 t165 t166 t167 t168 t169 t170 t171 t172 t173 t174 t175 t176 t177 t178 t179 t180 t181 t182 t183 t184 t185 t186 t187 t188 t189 t190 t191 t192 t193 t194 t195 t196 t197 t198 t199 t200 t201 t202 t203 t204 t205 t206 t207 t208 t209 t210 t211 t212 t213 t214 t215 t216 t217 t218 t219 t220 t221 t222 t223 t224 t225 t226 t227 t228 t229 t230 t231 t232 t233 t234 t235 t236 t237 t238 t239 t240 t241 t242 t243 t244 t245 t246 t247 t248 t249 t250 t251 t252 t253 t254 t255 t256 t257 t258 t259 t260 : Value} (G gk gb n c J : Nat) (T : List UInt8) (wr : World) (Q : Exit → Act → World → Prop) (hn : n < 1099511627776) (hJ : Hid (n = 64 * J)) (hT : Hid (T.length = n)) (hby : Bytes wr gb 0 T) (hk : ∀ i, i < 64 → wr.cell? ⟨gk, i, none⟩ = some (.int .u32 (kTab.getD i 0).toNat)) (hs : Blk wr G 127 ((foldB 0 first T).words.map U32)) (hgb : gb < wr.heap.size) (hgk : gk < wr.heap.size) (hne : gb ≠ G) (hne2 : gk ≠ G)
  (h : ∀ (wz : World) (u8 u9 u10 u11 u12 u13 u14 u15 u16 u17 u18 u19 u20 u53 u54 u55 u56 u57 u58 u59 u60 u61 u62 u63 u64 u65 u66 u67 u68 u69 u70 u71 u72 u73 u74 u75 u76 u77 u78 u79 u80 u81 u82 u83 u84 u85 u86 u87 u88 u89 u90 u91 u92 u93 u94 u95 u96 u97 u98 u99 u100 u101 u102 u103 u104 u105 u106 u107 u108 u109 u110 u111 u112 u113 u114 u115 u116 u117 u118 u119 u120 u121 u122 u123 u124 u125 u126 u127 u128 u129 u130 u131 u132 u133 u134 u135 u136 u137 u138 u139 u140 u141 u142 u143 u144 u145 u146 u147 u148 u149 u150 u151 u152 u153 u154 u155 u156 u157 u158 u159 u160 u161 u162 u163 u164 u165 u166 u167 u168 u169 u170 u171 u172 u173 u174 u175 u176 u177 u178 u179 u180 u181 u182 u183 u184 u185 u186 u187 u188 u189 u190 u191 u192 u193 u194 u195 u196 u197 u198 u199 u200 u201 u202 u203 u204 u205 u206 u207 u208 u209 u210 u211 u212 u213 u214 u215 u216 u217 u218 u219 u220 u221 u222 u223 u224 u225 u226 u227 u228 u229 u230 u231 u232 : Value), Blk wz G 127 ((foldB J first T).words.map U32) → wr.grownBy wz (some G) → Q (.exit 4) ⟨(t0 :: t1 :: t2 :: .pointer (some ⟨G, 0, none⟩) :: .pointer (some ⟨gk, 0, none⟩) :: .slice (some ⟨gb, 0, none⟩) n c :: t6 :: t7 :: u8 :: u9 :: u10 :: u11 :: u12 :: u13 :: u14 :: u15 :: u16 :: u17 :: u18 :: u19 :: u20 :: t21 :: t22 :: t23 :: t24 :: t25 :: t26 :: t27 :: t28 :: t29 :: t30 :: t31 :: t32 :: t33 :: t34 :: t35 :: t36 :: t37 :: t38 :: t39 :: t40 :: t41 :: t42 :: t43 :: t44 :: t45 :: t46 :: t47 :: t48 :: t49 :: t50 :: t51 :: t52 :: u53 :: u54 :: u55 :: u56 :: u57 :: u58 :: u59 :: u60 :: u61 :: u62 :: u63 :: u64 :: u65 :: u66 :: u67 :: u68 :: u69 :: u70 :: u71 :: u72 :: u73 :: u74 :: u75 :: u76 :: u77 :: u78 :: u79 :: u80 :: u81 :: u82 :: u83 :: u84 :: u85 :: u86 :: u87 :: u88 :: u89 :: u90 :: u91 :: u92 :: u93 :: u94 :: u95 :: u96 :: u97 :: u98 :: u99 :: u100 :: u101 :: u102 :: u103 :: u104 :: u105 :: u106 :: u107 :: u108 :: u109 :: u110 :: u111 :: u112 :: u113 :: u114 :: u115 :: u116 :: u117 :: u118 :: u119 :: u120 :: u121 :: u122 :: u123 :: u124 :: u125 :: u126 :: u127 :: u128 :: u129 :: u130 :: u131 :: u132 :: u133 :: u134 :: u135 :: u136 :: u137 :: u138 :: u139 :: u140 :: u141 :: u142 :: u143 :: u144 :: u145 :: u146 :: u147 :: u148 :: u149 :: u150 :: u151 :: u152 :: u153 :: u154 :: u155 :: u156 :: u157 :: u158 :: u159 :: u160 :: u161 :: u162 :: u163 :: u164 :: u165 :: u166 :: u167 :: u168 :: u169 :: u170 :: u171 :: u172 :: u173 :: u174 :: u175 :: u176 :: u177 :: u178 :: u179 :: u180 :: u181 :: u182 :: u183 :: u184 :: u185 :: u186 :: u187 :: u188 :: u189 :: u190 :: u191 :: u192 :: u193 :: u194 :: u195 :: u196 :: u197 :: u198 :: u199 :: u200 :: u201 :: u202 :: u203 :: u204 :: u205 :: u206 :: u207 :: u208 :: u209 :: u210 :: u211 :: u212 :: u213 :: u214 :: u215 :: u216 :: u217 :: u218 :: u219 :: u220 :: u221 :: u222 :: u223 :: u224 :: u225 :: u226 :: u227 :: u228 :: u229 :: u230 :: u231 :: u232 :: t233 :: t234 :: t235 :: t236 :: t237 :: t238 :: t239 :: t240 :: t241 :: t242 :: t243 :: t244 :: t245 :: t246 :: t247 :: t248 :: t249 :: t250 :: t251 :: t252 :: t253 :: t254 :: t255 :: t256 :: t257 :: t258 :: t259 :: t260 :: []).toArray, []⟩ wz) :
  blockLoopCode.wp Tryd.prog Q ⟨(t0 :: t1 :: t2 :: .pointer (some ⟨G, 0, none⟩) :: .pointer (some ⟨gk, 0, none⟩) :: .slice (some ⟨gb, 0, none⟩) n c :: t6 :: t7 :: .int .i64 0 :: t9 :: t10 :: t11 :: t12 :: t13 :: t14 :: t15 :: t16 :: t17 :: t18 :: t19 :: t20 :: t21 :: t22 :: t23 :: t24 :: t25 :: t26 :: t27 :: t28 :: t29 :: t30 :: t31 :: t32 :: t33 :: t34 :: t35 :: t36 :: t37 :: t38 :: t39 :: t40 :: t41 :: t42 :: t43 :: t44 :: t45 :: t46 :: t47 :: t48 :: t49 :: t50 :: t51 :: t52 :: t53 :: t54 :: t55 :: t56 :: t57 :: t58 :: t59 :: t60 :: t61 :: t62 :: t63 :: t64 :: t65 :: t66 :: t67 :: t68 :: t69 :: t70 :: t71 :: t72 :: t73 :: t74 :: t75 :: t76 :: t77 :: t78 :: t79 :: t80 :: t81 :: t82 :: t83 :: t84 :: t85 :: t86 :: t87 :: t88 :: t89 :: t90 :: t91 :: t92 :: t93 :: t94 :: t95 :: t96 :: t97 :: t98 :: t99 :: t100 :: t101 :: t102 :: t103 :: t104 :: t105 :: t106 :: t107 :: t108 :: t109 :: t110 :: t111 :: t112 :: t113 :: t114 :: t115 :: t116 :: t117 :: t118 :: t119 :: t120 :: t121 :: t122 :: t123 :: t124 :: t125 :: t126 :: t127 :: t128 :: t129 :: t130 :: t131 :: t132 :: t133 :: t134 :: t135 :: t136 :: t137 :: t138 :: t139 :: t140 :: t141 :: t142 :: t143 :: t144 :: t145 :: t146 :: t147 :: t148 :: t149 :: t150 :: t151 :: t152 :: t153 :: t154 :: t155 :: t156 :: t157 :: t158 :: t159 :: t160 :: t161 :: t162 :: t163 :: t164 :: t165 :: t166 :: t167 :: t168 :: t169 :: t170 :: t171 :: t172 :: t173 :: t174 :: t175 :: t176 :: t177 :: t178 :: t179 :: t180 :: t181 :: t182 :: t183 :: t184 :: t185 :: t186 :: t187 :: t188 :: t189 :: t190 :: t191 :: t192 :: t193 :: t194 :: t195 :: t196 :: t197 :: t198 :: t199 :: t200 :: t201 :: t202 :: t203 :: t204 :: t205 :: t206 :: t207 :: t208 :: t209 :: t210 :: t211 :: t212 :: t213 :: t214 :: t215 :: t216 :: t217 :: t218 :: t219 :: t220 :: t221 :: t222 :: t223 :: t224 :: t225 :: t226 :: t227 :: t228 :: t229 :: t230 :: t231 :: t232 :: t233 :: t234 :: t235 :: t236 :: t237 :: t238 :: t239 :: t240 :: t241 :: t242 :: t243 :: t244 :: t245 :: t246 :: t247 :: t248 :: t249 :: t250 :: t251 :: t252 :: t253 :: t254 :: t255 :: t256 :: t257 :: t258 :: t259 :: t260 :: []).toArray, []⟩ wr := by
 conv => arg 2; whnf
 have hGl := hs.lt
 go_loopw [8] (fun i w6 => ∃ b p : Nat, b ≤ J ∧ Hid (p = 64 * b) ∧ i = .int .i64 (p : Int) ∧ Blk w6 G 127 ((foldB b first T).words.map U32) ∧ wr.grownBy w6 (some G)) (fun i _ => n - (intOf i).toNat)
 case atStart => exact ⟨0, 0, Nat.zero_le _, (show _ = _ from rfl), rfl, hs, grown_refl _ _⟩
 case round =>
  clear hs
  obtain ⟨b, p, hbJ, HP, rfl, hs, hg⟩ := hrel
  have hsz := hg.size
  by_cases hlt : b < J
  ·
   have hpn : p + 64 ≤ n := by have := HP.out; have := hJ.out; omega
   have hpn' : p < n := by omega
   have HBL := Lib.hid (blkAt_length T b (by have := hT.out; have := HP.out; omega))
   have hbyr : Bytes wr gb 0 T := fun j hj => (World.cell?_of_block (a := ⟨gb, 0 + j, none⟩) (hg.block gb hgb (by simpa using hne))).trans (hby j hj)
   have hkr : ∀ i, i < 64 → wr.cell? ⟨gk, i, none⟩ = some (.int .u32 (kTab.getD i 0).toNat) := fun i hi => (World.cell?_of_block (a := ⟨gk, i, none⟩) (hg.block gk hgk (by simpa using hne2))).trans (hk i hi)
   go_wp2
   refine schedLoop gb n c p wr.heap.size wr.heap.size (blkAt T b) _ _ hpn hn (by omega) (Nat.le_refl _) (fun i hi => ?_) (Blk.new_of wr _ _ _ (by rfl)) ?_
   ·
    rw [((Below.refl wr.heap.size wr).alloc (Nat.le_refl _) _).cell (p := ⟨gb, p + i, none⟩) (by show gb < _; omega)]
    exact hbyr.blk b p i HP.out hi (by have := hT.out; omega)
   intro wz4
   intros
   rename_i hW4 hb4
   have hz4 : wr.heap.size < wz4.heap.size := hW4.lt
   have hg4 : wr.grownBy wz4 (some G) := grown_of_below (((Below.refl wr.heap.size wr).alloc (Nat.le_refl _) _).trans hb4) _
   have hs4 := (hs.alloc _).below hb4 (by omega)
   clear hb4 HBL hbyr
   obtain ⟨S, hS⟩ : ∃ S, S = foldB b first T := ⟨_, rfl⟩
   rw [← hS] at hs4
   have HS := Lib.hid hS
   have hGl2 : G < wz4.heap.size := by omega
   have hI8 : (Tryd.prog.info? 127).map (·.size) = some (S.words.map U32).length := info63r
   have HI8 := Lib.hid hI8
   clear hS hI8 hs
   go_wp2_with (first
    | ((with_reducible refine (?_ : wpList _ _ _ (Oper.mk (some 137) _ _ _ _ _ :: _) _ _)); go_loud (refine wpList_load_blk rfl 127 (.tmp 3) rfl G rfl 127 _ _ hs4 Tryd.underlying127 rfl HI8.out ?_))
    | ((with_reducible refine (?_ : wpList _ _ _ (Oper.mk none (.store 127 _ _) _ _ _ _ :: _) _ _)); go_loud (refine wpList_store_blk rfl 127 (.tmp 14) (.tmp 137) rfl rfl wz4.heap.size (S.words.map U32) rfl rfl 127 (List.replicate 8 (.int .u32 0)) (Blk.new_of wz4 _ _ _ (by rfl)) HI8.out (by rfl) (one32 _) ?_); intro w5 hv5 hg5))
   have hs5 := (hs4.alloc _).grown hg5 (by simp; omega)
   have hW5 := (hW4.alloc _).grown hg5 (by simp; omega)
   have hz5 : wz4.heap.size < w5.heap.size := hv5.lt
   have hg6 := grown_new (grown_alloc hg4 _) hg5 (by omega)
   clear hg5 hs4 hW4 hg4 HI8
   refine roundLoop gk wr.heap.size wz4.heap.size wz4.heap.size (schedTo (blkAt T b) 64) S _ _ (by omega) hz4 (Nat.le_refl _) (fun i hi => (World.cell?_of_block (a := ⟨gk, i, none⟩) (hg6.block gk (by omega) (by simpa using hne2))).trans (hkr i hi)) (fun i hi => hW5.at32 i (by rw [schedTo_length]; exact hi)) hv5 (Nat.le_of_lt hz5) ?_
   intro wz6
   intros
   rename_i hv6 hb6
   have hs6 := hs5.below hb6 hGl2
   have hg7 := grown_then_below hg6 hb6 (Nat.le_of_lt hz4)
   have hne3 : wz4.heap.size ≠ G := by omega
   clear hb6 hg6 hs5 hv5 hW5
   go_wp2
   refine addLoop G wz4.heap.size S (rnds (schedTo (blkAt T b) 64) 64 S) _ _ hne3 hs6 hv6 ?_
   intro wz7
   intros
   rename_i hs7 hg8
   have hg9 := grown_trans hg7 hg8
   clear hg7 hg8 hs6 hv6
   go_wp2
   go_roundw
   case rel =>
    refine ⟨b + 1, p + 64, hlt, ?_, by go_num, ?_, grown_trans hg hg9⟩
    ·
     show _ = _
     have := HP.out; omega
    ·
     rw [foldB_succ, ← HS.out]
     exact hs7
   case measure => simp [intOf]; omega
  ·
   have hbe : b = J := by omega
   have hpn' : ¬ p < n := by have := HP.out; have := hJ.out; omega
   rw [hbe] at hs
   go_wp2
   exact h _ _ _ _ _ _ _ _ _ _ _ _ _ _ _ _ _ _ _ _ _ _ _ _ _ _ _ _ _ _ _ _ _ _ _ _ _ _ _ _ _ _ _ _ _ _ _ _ _ _ _ _ _ _ _ _ _ _ _ _ _ _ _ _ _ _ _ _ _ _ _ _ _ _ _ _ _ _ _ _ _ _ _ _ _ _ _ _ _ _ _ _ _ _ _ _ _ _ _ _ _ _ _ _ _ _ _ _ _ _ _ _ _ _ _ _ _ _ _ _ _ _ _ _ _ _ _ _ _ _ _ _ _ _ _ _ _ _ _ _ _ _ _ _ _ _ _ _ _ _ _ _ _ _ _ _ _ _ _ _ _ _ _ _ _ _ _ _ _ _ _ _ _ _ _ _ _ _ _ _ _ _ _ _ _ _ _ _ _ _ _ _ _ _ hs hg

end
section
open Go.RowKit Go.BigFrame
theorem src_row {w : World} {g n : Nat} {t : TypeId} {ys : List UInt8} (h : Blk w g t (ys.map B8)) (hn : ys.length = n) : _root_.Go.Src Tryd.prog 1 24 (.slice (some ⟨g, 0, none⟩) n n) ys.length (ys.map B8) w := by
 subst hn
 refine _root_.Go.Src.ofSlice w Tryd.underlying24 ⟨g, 0, none⟩ ys.length ys.length _ (by simp) (fun j u hu => ?_) (oneB8 _)
 rw [add_row, Nat.zero_add, h.cell, hu]
/-- Bytes more behind a row of the call's own, as a step of a region that draws its order. -/
theorem step_append_buf {ops : Array Oper} {o : Oper} {a : Act} {w : World} {K : Act → World → Prop} {Q : Exit → Act → World → Prop} {E : Prop} (hgd : o.guard = none) (s x : Operand) (tx : TypeId)
  (ho : o.op = .call { callee := .builtin .append, args := #[s, x], argTypes := #[24, tx] })
  (base : Nat) (A : Option Addr) (n c : Nat) (bs ys : List UInt8) (v : Value) (hs : a.eval s = .slice A n c) (hb : Buf w base A n c bs) (hx : a.eval x = v) (hsrc : _root_.Go.Src Tryd.prog 1 tx v ys.length (ys.map B8) w)
  (hn : n + ys.length ≤ 1099511627776) (hbase : base ≤ w.heap.size)
  (h : ∀ A' c' w', Buf w' base A' (n + ys.length) c' (bs ++ ys) → w.grownBy w' (ownOf A) → K (a.put o.dst (.slice A' (n + ys.length) c')) w') : if Region.wanted o (yielded ops a.tmps) = true then Oper.wp Tryd.prog o a w K Q else E := by
 have hw : Region.wanted o (yielded ops a.tmps) = true := by simp [Region.wanted, hgd]
 rw [if_pos hw]
 obtain ⟨A', c', w', hr, h1, h2⟩ := run_append_buf tx o.type base A n c bs ys v w hb hsrc hn hbase
 unfold Oper.wp execOp
 simp only [ho, resolve, invoke, builtin, Sem.run_bind, Sem.run_pure, Result.andThen_ok, List.map_toArray, List.map_cons, List.map_nil, hs, hx, hr]
 exact h A' c' w' h1 h2
/-- The bytes of the first k words. -/
def outTo (ws : List UInt32) (k : Nat) : List UInt8 := (ws.take k).flatMap word4
theorem outTo_succ (ws : List UInt32) (k : Nat) (h : k < ws.length) : outTo ws (k + 1) = outTo ws k ++ word4 (ws.getD k 0) := by
 unfold outTo
 rw [List.take_succ_eq_append_getElem h, List.flatMap_append, List.getD_eq_getElem?_getD, List.getElem?_eq_getElem h]
 simp
theorem outTo_all (s : St) : outTo s.words 8 = bytesOf s := by
 simp [outTo, St.words, bytesOf]
noncomputable def code38 : Code := ((Tryd.f86.body.bind (regionOf 38)).getD .skip)
set_option maxRecDepth 1000000 in
set_option maxHeartbeats 4000000 in
theorem reg38 {t0 t1 t2 t4 t5 t6 t7 t8 t9 t10 t11 t12 t13 t14 t15 t16 t17 t18 t19 t20 t23 t24 t25 t26 t27 t28 t29 t30 t31 t32 t33 t34 t35 t36 t37 t38 t39 t40 t41 t42 t43 t44 t45 t46 t47 t48 t49 t50 t51 t52 t53 t54 t55 t56 t57 t58 t59 t60 t61 t62 t63 t64 t65 t66 t67 t68 t69 t70 t71 t72 t73 t74 t75 t76 t77 t78 t79 t80 t81 t82 t83 t84 t85 t86 t87 t88 t89 t90 t91 t92 t93 t94 t95 t96 t97 t98 t99 t100 t101 t102 t103 t104 t105 t106 t107 t108 t109 t110 t111 t112 t113 t114 t115 t116 t117 t118 t119 t120 t121 t122 t123 t124 t125 t126 t127 t128 t129 t130 t131 t132 t133 t134 t135 t136 t137 t138 t139 t140 t141 t142 t143 t144 t145 t146 t147 t148 t149 t150 t151 t152 t153 t154 t155 t156 t157 t158 t159 t160 t161 t162 t163 t164 t165 t166 t167 t168 t169 t170 t171 t172 t173 t174 t175 t176 t177 t178 t179 t180 t181 t182 t183 t184 t185 t186 t187 t188 t189 t190 t191 t192 t193 t194 t195 t196 t197 t198 t199 t200 t201 t202 t203 t204 t205 t206 t207 t208 t209 t210 t211 t212 t213 t214 t215 t216 t217 t218 t219 t220 t221 t222 t223 t224 t225 t226 t227 t228 t229 t230 t231 t232 t233 t234 t235 t236 t237 t238 t239 t240 t241 t242 t243 t244 t245 t246 t247 t248 t249 t250 t251 t252 t253 t254 t255 t256 t257 t258 t259 t260 : Value} (g base k m c : Nat) (A : Option Addr) (x : UInt32) (bs : List UInt8) (wr : World) (Q : Exit → Act → World → Prop) (hk : k < 8) (hm : m < 1000) (hc : wr.cell? ⟨g, k, none⟩ = some (.int .u32 x.toNat)) (hB : Buf wr base A m c bs) (hb : base ≤ wr.heap.size)
  (h : ∀ (A' : Option Addr) (c' : Nat) (w' : World) (u237 u238 u239 u240 u241 u242 u243 u244 u245 u246 u247 u248 u249 u250 u251 u252 u253 u254 u255 u256 u257 u258 : Value), Buf w' base A' (m + 4) c' (bs ++ word4 x) → Below base wr w' → Q .normal ⟨(t0 :: t1 :: t2 :: .pointer (some ⟨g, 0, none⟩) :: t4 :: t5 :: t6 :: t7 :: t8 :: t9 :: t10 :: t11 :: t12 :: t13 :: t14 :: t15 :: t16 :: t17 :: t18 :: t19 :: t20 :: .slice A' (m + 4) c' :: .int .i64 (k : Int) :: t23 :: t24 :: t25 :: t26 :: t27 :: t28 :: t29 :: t30 :: t31 :: t32 :: t33 :: t34 :: t35 :: t36 :: t37 :: t38 :: t39 :: t40 :: t41 :: t42 :: t43 :: t44 :: t45 :: t46 :: t47 :: t48 :: t49 :: t50 :: t51 :: t52 :: t53 :: t54 :: t55 :: t56 :: t57 :: t58 :: t59 :: t60 :: t61 :: t62 :: t63 :: t64 :: t65 :: t66 :: t67 :: t68 :: t69 :: t70 :: t71 :: t72 :: t73 :: t74 :: t75 :: t76 :: t77 :: t78 :: t79 :: t80 :: t81 :: t82 :: t83 :: t84 :: t85 :: t86 :: t87 :: t88 :: t89 :: t90 :: t91 :: t92 :: t93 :: t94 :: t95 :: t96 :: t97 :: t98 :: t99 :: t100 :: t101 :: t102 :: t103 :: t104 :: t105 :: t106 :: t107 :: t108 :: t109 :: t110 :: t111 :: t112 :: t113 :: t114 :: t115 :: t116 :: t117 :: t118 :: t119 :: t120 :: t121 :: t122 :: t123 :: t124 :: t125 :: t126 :: t127 :: t128 :: t129 :: t130 :: t131 :: t132 :: t133 :: t134 :: t135 :: t136 :: t137 :: t138 :: t139 :: t140 :: t141 :: t142 :: t143 :: t144 :: t145 :: t146 :: t147 :: t148 :: t149 :: t150 :: t151 :: t152 :: t153 :: t154 :: t155 :: t156 :: t157 :: t158 :: t159 :: t160 :: t161 :: t162 :: t163 :: t164 :: t165 :: t166 :: t167 :: t168 :: t169 :: t170 :: t171 :: t172 :: t173 :: t174 :: t175 :: t176 :: t177 :: t178 :: t179 :: t180 :: t181 :: t182 :: t183 :: t184 :: t185 :: t186 :: t187 :: t188 :: t189 :: t190 :: t191 :: t192 :: t193 :: t194 :: t195 :: t196 :: t197 :: t198 :: t199 :: t200 :: t201 :: t202 :: t203 :: t204 :: t205 :: t206 :: t207 :: t208 :: t209 :: t210 :: t211 :: t212 :: t213 :: t214 :: t215 :: t216 :: t217 :: t218 :: t219 :: t220 :: t221 :: t222 :: t223 :: t224 :: t225 :: t226 :: t227 :: t228 :: t229 :: t230 :: t231 :: t232 :: t233 :: t234 :: t235 :: t236 :: u237 :: u238 :: u239 :: u240 :: u241 :: u242 :: u243 :: u244 :: u245 :: u246 :: u247 :: u248 :: u249 :: u250 :: u251 :: u252 :: u253 :: u254 :: u255 :: u256 :: u257 :: u258 :: t259 :: t260 :: []).toArray, []⟩ w') :
  code38.wp Tryd.prog Q ⟨(t0 :: t1 :: t2 :: .pointer (some ⟨g, 0, none⟩) :: t4 :: t5 :: t6 :: t7 :: t8 :: t9 :: t10 :: t11 :: t12 :: t13 :: t14 :: t15 :: t16 :: t17 :: t18 :: t19 :: t20 :: .slice A m c :: .int .i64 (k : Int) :: t23 :: t24 :: t25 :: t26 :: t27 :: t28 :: t29 :: t30 :: t31 :: t32 :: t33 :: t34 :: t35 :: t36 :: t37 :: t38 :: t39 :: t40 :: t41 :: t42 :: t43 :: t44 :: t45 :: t46 :: t47 :: t48 :: t49 :: t50 :: t51 :: t52 :: t53 :: t54 :: t55 :: t56 :: t57 :: t58 :: t59 :: t60 :: t61 :: t62 :: t63 :: t64 :: t65 :: t66 :: t67 :: t68 :: t69 :: t70 :: t71 :: t72 :: t73 :: t74 :: t75 :: t76 :: t77 :: t78 :: t79 :: t80 :: t81 :: t82 :: t83 :: t84 :: t85 :: t86 :: t87 :: t88 :: t89 :: t90 :: t91 :: t92 :: t93 :: t94 :: t95 :: t96 :: t97 :: t98 :: t99 :: t100 :: t101 :: t102 :: t103 :: t104 :: t105 :: t106 :: t107 :: t108 :: t109 :: t110 :: t111 :: t112 :: t113 :: t114 :: t115 :: t116 :: t117 :: t118 :: t119 :: t120 :: t121 :: t122 :: t123 :: t124 :: t125 :: t126 :: t127 :: t128 :: t129 :: t130 :: t131 :: t132 :: t133 :: t134 :: t135 :: t136 :: t137 :: t138 :: t139 :: t140 :: t141 :: t142 :: t143 :: t144 :: t145 :: t146 :: t147 :: t148 :: t149 :: t150 :: t151 :: t152 :: t153 :: t154 :: t155 :: t156 :: t157 :: t158 :: t159 :: t160 :: t161 :: t162 :: t163 :: t164 :: t165 :: t166 :: t167 :: t168 :: t169 :: t170 :: t171 :: t172 :: t173 :: t174 :: t175 :: t176 :: t177 :: t178 :: t179 :: t180 :: t181 :: t182 :: t183 :: t184 :: t185 :: t186 :: t187 :: t188 :: t189 :: t190 :: t191 :: t192 :: t193 :: t194 :: t195 :: t196 :: t197 :: t198 :: t199 :: t200 :: t201 :: t202 :: t203 :: t204 :: t205 :: t206 :: t207 :: t208 :: t209 :: t210 :: t211 :: t212 :: t213 :: t214 :: t215 :: t216 :: t217 :: t218 :: t219 :: t220 :: t221 :: t222 :: t223 :: t224 :: t225 :: t226 :: t227 :: t228 :: t229 :: t230 :: t231 :: t232 :: t233 :: t234 :: t235 :: t236 :: t237 :: t238 :: t239 :: t240 :: t241 :: t242 :: t243 :: t244 :: t245 :: t246 :: t247 :: t248 :: t249 :: t250 :: t251 :: t252 :: t253 :: t254 :: t255 :: t256 :: t257 :: t258 :: t259 :: t260 :: []).toArray, []⟩ wr := by
 conv => arg 2; whnf
 have hk1 : (k : Int) < 8 := by omega
 have hk0 : (0 : Int) ≤ (k : Int) := by omega
 refine wp_region_move_tail 20 _ _ (by kernel_rfl) (by kernel_rfl) rfl rfl rfl ?_
 simp only [List.take_succ_cons, List.take_zero, List.drop_succ_cons, List.drop_zero]
 change wpQuiet _ _ _ _ _ ⟨(t0 :: t1 :: t2 :: .pointer (some ⟨g, 0, none⟩) :: t4 :: t5 :: t6 :: t7 :: t8 :: t9 :: t10 :: t11 :: t12 :: t13 :: t14 :: t15 :: t16 :: t17 :: t18 :: t19 :: t20 :: .slice A m c :: .int .i64 (k : Int) :: t23 :: t24 :: t25 :: t26 :: t27 :: t28 :: t29 :: t30 :: t31 :: t32 :: t33 :: t34 :: t35 :: t36 :: t37 :: t38 :: t39 :: t40 :: t41 :: t42 :: t43 :: t44 :: t45 :: t46 :: t47 :: t48 :: t49 :: t50 :: t51 :: t52 :: t53 :: t54 :: t55 :: t56 :: t57 :: t58 :: t59 :: t60 :: t61 :: t62 :: t63 :: t64 :: t65 :: t66 :: t67 :: t68 :: t69 :: t70 :: t71 :: t72 :: t73 :: t74 :: t75 :: t76 :: t77 :: t78 :: t79 :: t80 :: t81 :: t82 :: t83 :: t84 :: t85 :: t86 :: t87 :: t88 :: t89 :: t90 :: t91 :: t92 :: t93 :: t94 :: t95 :: t96 :: t97 :: t98 :: t99 :: t100 :: t101 :: t102 :: t103 :: t104 :: t105 :: t106 :: t107 :: t108 :: t109 :: t110 :: t111 :: t112 :: t113 :: t114 :: t115 :: t116 :: t117 :: t118 :: t119 :: t120 :: t121 :: t122 :: t123 :: t124 :: t125 :: t126 :: t127 :: t128 :: t129 :: t130 :: t131 :: t132 :: t133 :: t134 :: t135 :: t136 :: t137 :: t138 :: t139 :: t140 :: t141 :: t142 :: t143 :: t144 :: t145 :: t146 :: t147 :: t148 :: t149 :: t150 :: t151 :: t152 :: t153 :: t154 :: t155 :: t156 :: t157 :: t158 :: t159 :: t160 :: t161 :: t162 :: t163 :: t164 :: t165 :: t166 :: t167 :: t168 :: t169 :: t170 :: t171 :: t172 :: t173 :: t174 :: t175 :: t176 :: t177 :: t178 :: t179 :: t180 :: t181 :: t182 :: t183 :: t184 :: t185 :: t186 :: t187 :: t188 :: t189 :: t190 :: t191 :: t192 :: t193 :: t194 :: t195 :: t196 :: t197 :: t198 :: t199 :: t200 :: t201 :: t202 :: t203 :: t204 :: t205 :: t206 :: t207 :: t208 :: t209 :: t210 :: t211 :: t212 :: t213 :: t214 :: t215 :: t216 :: t217 :: t218 :: t219 :: t220 :: t221 :: t222 :: t223 :: t224 :: t225 :: t226 :: t227 :: t228 :: t229 :: t230 :: t231 :: t232 :: t233 :: t234 :: t235 :: t236 :: .slice A m c :: t238 :: t239 :: t240 :: t241 :: t242 :: t243 :: t244 :: t245 :: t246 :: t247 :: t248 :: t249 :: t250 :: t251 :: t252 :: t253 :: t254 :: t255 :: t256 :: t257 :: t258 :: t259 :: t260 :: []).toArray, []⟩
 repeat (go_big_quiet_step (fail))
 refine wpQuiet_nil ?_
 intro nq
 replace hB := hB.drewN nq
 replace hb : base ≤ (wr.drewN nq).heap.size := hb
 have hbl : Below base wr (wr.drewN nq) := below_drewN (Below.refl _ _) nq
 generalize wr.drewN nq = w1 at *
 have hrow : Blk (w1.alloc (.cells #[.int .u8 ((x.toNat : Int) / 16777216 % 256), .int .u8 ((x.toNat : Int) / 65536 % 256), .int .u8 ((x.toNat : Int) / 256 % 256), .int .u8 ((x.toNat : Int) % 256)] 5)) w1.heap.size 5 ((word4 x).map B8) := Blk.new_of w1 _ _ _ (by rw [w_byte24, w_byte16, w_byte8, w_byte0]; rfl)
 have HR := Lib.hid hrow
 clear hrow
 go_wp2_with ((with_reducible refine (?_ : wpList _ _ _ (Oper.mk (some 258) _ _ _ _ _ :: _) _ _)); go_loud (refine wpList_append_buf rfl (.tmp 237) (.tmp 257) 24 rfl base A m c bs (word4 x) _ rfl (hB.alloc _) rfl (src_row HR.out rfl) (by show m + 4 ≤ _; omega) (by simp <;> omega) ?_); intro A' c' w' hB' hg')
 exact h _ _ _ _ _ _ _ _ _ _ _ _ _ _ _ _ _ _ _ _ _ _ _ _ _ hB' (below_own (hbl.alloc hb _) (hB.alloc _) hg' (Nat.le_refl _) (by simp <;> omega))

noncomputable def outLoopCode : Code := ((Tryd.f86.body.bind (loopOf 36)).getD .skip)
set_option maxRecDepth 1000000 in
set_option maxHeartbeats 4000000 in
theorem outLoop {t0 t1 t2 t4 t5 t6 t7 t8 t9 t10 t11 t12 t13 t14 t15 t16 t17 t18 t19 t20 t23 t24 t25 t26 t27 t28 t29 t30 t31 t32 t33 t34 t35 t36 t37 t38 t39 t40 t41 t42 t43 t44 t45 t46 t47 t48 t49 t50 t51 t52 t53 t54 t55 t56 t57 t58 t59 t60 t61 t62 t63 t64 t65 t66 t67 t68 t69 t70 t71 t72 t73 t74 t75 t76 t77 t78 t79 t80 t81 t82 t83 t84 t85 t86 t87 t88 t89 t90 t91 t92 t93 t94 t95 t96 t97 t98 t99 t100 t101 t102 t103 t104 t105 t106 t107 t108 t109 t110 t111 t112 t113 t114 t115 t116 t117 t118 t119 t120 t121 t122 t123 t124 t125 t126 t127 t128 t129 t130 t131 t132 t133 t134 t135 t136 t137 t138 t139 t140 t141 t142 t143 t144 t145 t146 t147 t148 t149 t150 t151 t152 t153 t154 t155 t156 t157 t158 t159 t160 t161 t162 t163 t164 t165 t166 t167 t168 t169 t170 t171 t172 t173 t174 t175 t176 t177 t178 t179 t180 t181 t182 t183 t184 t185 t186 t187 t188 t189 t190 t191 t192 t193 t194 t195 t196 t197 t198 t199 t200 t201 t202 t203 t204 t205 t206 t207 t208 t209 t210 t211 t212 t213 t214 t215 t216 t217 t218 t219 t220 t221 t222 t223 t224 t225 t226 t227 t228 t229 t230 t231 t232 t233 t234 t235 t236 t237 t238 t239 t240 t241 t242 t243 t244 t245 t246 t247 t248 t249 t250 t251 t252 t253 t254 t255 t256 t257 t258 t259 t260 : Value} (g : Nat) (s : St) (wr : World) (Q : Exit → Act → World → Prop) (hs : Blk wr g 127 (s.words.map U32))
  (h : ∀ (wz : World) (u21 u22 u233 u234 u235 u236 u237 u238 u239 u240 u241 u242 u243 u244 u245 u246 u247 u248 u249 u250 u251 u252 u253 u254 u255 u256 u257 u258 : Value), ∀ (A : Option Addr) (c : Nat), u21 = .slice A 32 c → Buf wz wr.heap.size A 32 c (bytesOf s) → Below wr.heap.size wr wz → Q (.exit 12) ⟨(t0 :: t1 :: t2 :: .pointer (some ⟨g, 0, none⟩) :: t4 :: t5 :: t6 :: t7 :: t8 :: t9 :: t10 :: t11 :: t12 :: t13 :: t14 :: t15 :: t16 :: t17 :: t18 :: t19 :: t20 :: u21 :: u22 :: t23 :: t24 :: t25 :: t26 :: t27 :: t28 :: t29 :: t30 :: t31 :: t32 :: t33 :: t34 :: t35 :: t36 :: t37 :: t38 :: t39 :: t40 :: t41 :: t42 :: t43 :: t44 :: t45 :: t46 :: t47 :: t48 :: t49 :: t50 :: t51 :: t52 :: t53 :: t54 :: t55 :: t56 :: t57 :: t58 :: t59 :: t60 :: t61 :: t62 :: t63 :: t64 :: t65 :: t66 :: t67 :: t68 :: t69 :: t70 :: t71 :: t72 :: t73 :: t74 :: t75 :: t76 :: t77 :: t78 :: t79 :: t80 :: t81 :: t82 :: t83 :: t84 :: t85 :: t86 :: t87 :: t88 :: t89 :: t90 :: t91 :: t92 :: t93 :: t94 :: t95 :: t96 :: t97 :: t98 :: t99 :: t100 :: t101 :: t102 :: t103 :: t104 :: t105 :: t106 :: t107 :: t108 :: t109 :: t110 :: t111 :: t112 :: t113 :: t114 :: t115 :: t116 :: t117 :: t118 :: t119 :: t120 :: t121 :: t122 :: t123 :: t124 :: t125 :: t126 :: t127 :: t128 :: t129 :: t130 :: t131 :: t132 :: t133 :: t134 :: t135 :: t136 :: t137 :: t138 :: t139 :: t140 :: t141 :: t142 :: t143 :: t144 :: t145 :: t146 :: t147 :: t148 :: t149 :: t150 :: t151 :: t152 :: t153 :: t154 :: t155 :: t156 :: t157 :: t158 :: t159 :: t160 :: t161 :: t162 :: t163 :: t164 :: t165 :: t166 :: t167 :: t168 :: t169 :: t170 :: t171 :: t172 :: t173 :: t174 :: t175 :: t176 :: t177 :: t178 :: t179 :: t180 :: t181 :: t182 :: t183 :: t184 :: t185 :: t186 :: t187 :: t188 :: t189 :: t190 :: t191 :: t192 :: t193 :: t194 :: t195 :: t196 :: t197 :: t198 :: t199 :: t200 :: t201 :: t202 :: t203 :: t204 :: t205 :: t206 :: t207 :: t208 :: t209 :: t210 :: t211 :: t212 :: t213 :: t214 :: t215 :: t216 :: t217 :: t218 :: t219 :: t220 :: t221 :: t222 :: t223 :: t224 :: t225 :: t226 :: t227 :: t228 :: t229 :: t230 :: t231 :: t232 :: u233 :: u234 :: u235 :: u236 :: u237 :: u238 :: u239 :: u240 :: u241 :: u242 :: u243 :: u244 :: u245 :: u246 :: u247 :: u248 :: u249 :: u250 :: u251 :: u252 :: u253 :: u254 :: u255 :: u256 :: u257 :: u258 :: t259 :: t260 :: []).toArray, []⟩ wz) :
  outLoopCode.wp Tryd.prog Q ⟨(t0 :: t1 :: t2 :: .pointer (some ⟨g, 0, none⟩) :: t4 :: t5 :: t6 :: t7 :: t8 :: t9 :: t10 :: t11 :: t12 :: t13 :: t14 :: t15 :: t16 :: t17 :: t18 :: t19 :: t20 :: .slice none 0 0 :: .int .i64 0 :: t23 :: t24 :: t25 :: t26 :: t27 :: t28 :: t29 :: t30 :: t31 :: t32 :: t33 :: t34 :: t35 :: t36 :: t37 :: t38 :: t39 :: t40 :: t41 :: t42 :: t43 :: t44 :: t45 :: t46 :: t47 :: t48 :: t49 :: t50 :: t51 :: t52 :: t53 :: t54 :: t55 :: t56 :: t57 :: t58 :: t59 :: t60 :: t61 :: t62 :: t63 :: t64 :: t65 :: t66 :: t67 :: t68 :: t69 :: t70 :: t71 :: t72 :: t73 :: t74 :: t75 :: t76 :: t77 :: t78 :: t79 :: t80 :: t81 :: t82 :: t83 :: t84 :: t85 :: t86 :: t87 :: t88 :: t89 :: t90 :: t91 :: t92 :: t93 :: t94 :: t95 :: t96 :: t97 :: t98 :: t99 :: t100 :: t101 :: t102 :: t103 :: t104 :: t105 :: t106 :: t107 :: t108 :: t109 :: t110 :: t111 :: t112 :: t113 :: t114 :: t115 :: t116 :: t117 :: t118 :: t119 :: t120 :: t121 :: t122 :: t123 :: t124 :: t125 :: t126 :: t127 :: t128 :: t129 :: t130 :: t131 :: t132 :: t133 :: t134 :: t135 :: t136 :: t137 :: t138 :: t139 :: t140 :: t141 :: t142 :: t143 :: t144 :: t145 :: t146 :: t147 :: t148 :: t149 :: t150 :: t151 :: t152 :: t153 :: t154 :: t155 :: t156 :: t157 :: t158 :: t159 :: t160 :: t161 :: t162 :: t163 :: t164 :: t165 :: t166 :: t167 :: t168 :: t169 :: t170 :: t171 :: t172 :: t173 :: t174 :: t175 :: t176 :: t177 :: t178 :: t179 :: t180 :: t181 :: t182 :: t183 :: t184 :: t185 :: t186 :: t187 :: t188 :: t189 :: t190 :: t191 :: t192 :: t193 :: t194 :: t195 :: t196 :: t197 :: t198 :: t199 :: t200 :: t201 :: t202 :: t203 :: t204 :: t205 :: t206 :: t207 :: t208 :: t209 :: t210 :: t211 :: t212 :: t213 :: t214 :: t215 :: t216 :: t217 :: t218 :: t219 :: t220 :: t221 :: t222 :: t223 :: t224 :: t225 :: t226 :: t227 :: t228 :: t229 :: t230 :: t231 :: t232 :: t233 :: t234 :: t235 :: t236 :: t237 :: t238 :: t239 :: t240 :: t241 :: t242 :: t243 :: t244 :: t245 :: t246 :: t247 :: t248 :: t249 :: t250 :: t251 :: t252 :: t253 :: t254 :: t255 :: t256 :: t257 :: t258 :: t259 :: t260 :: []).toArray, []⟩ wr := by
 conv => arg 2; whnf
 have hgl := hs.lt
 go_loopw [21, 22] (fun v i w6 => ∃ (k : Nat) (A : Option Addr) (c : Nat), k ≤ 8 ∧ i = .int .i64 (k : Int) ∧ v = .slice A (4 * k) c ∧ Buf w6 wr.heap.size A (4 * k) c (outTo s.words k) ∧ Below wr.heap.size wr w6) (fun _ i _ => 8 - (intOf i).toNat)
 case atStart => exact ⟨0, none, 0, by omega, rfl, rfl, Buf.nil _ _, Below.refl _ _⟩
 case round =>
  obtain ⟨k, A, c, hk, rfl, rfl, hB, hb⟩ := hrel
  by_cases hlt : k < 8
  ·
   have hd : decide ((k : Int) < 8) = true := by simp; omega
   have c0 := (hs.below hb hgl).at32 k (by show k < 8; omega)
   have HO := Lib.hid (outTo_succ s.words k (by show k < 8; omega))
   obtain ⟨x, hx⟩ : ∃ x, x = s.words.getD k 0 := ⟨_, rfl⟩
   rw [← hx] at c0
   have HX := Lib.hid hx
   clear hx
   go_wp2
   refine reg38 g _ k (4 * k) c A x _ _ _ hlt (by omega) c0 hB hb.size ?_
   intro A' c' w'
   intros
   rename_i hB' hb'
   go_wp2
   go_roundw
   case rel =>
    refine ⟨k + 1, A', c', by omega, by go_num, rfl, ?_, hb.trans hb'⟩
    rw [HO.out, ← HX.out]
    exact hB'
   case measure => simp [intOf]; omega
  ·
   have hd : decide ((k : Int) < 8) = false := by simp; omega
   obtain rfl : k = 8 := by omega
   rw [outTo_all] at hB
   go_wp2
   exact h _ _ _ _ _ _ _ _ _ _ _ _ _ _ _ _ _ _ _ _ _ _ _ _ _ _ _ _ _ A c rfl hB hb

end
section
open Go.RowKit
theorem be8_take (c j p : Nat) (hj : j < 8) (hp : p = 56 - 8 * j) : (be8 c).take (j + 1) = (be8 c).take j ++ [UInt8.ofNat (c / 2 ^ p)] := by
 subst hp
 obtain rfl | rfl | rfl | rfl | rfl | rfl | rfl | rfl : j = 0 ∨ j = 1 ∨ j = 2 ∨ j = 3 ∨ j = 4 ∨ j = 5 ∨ j = 6 ∨ j = 7 := by omega
 all_goals simp [be8]
theorem byte_of (n p : Nat) : Value.int .u8 ((n : Int) * 8 / 2 ^ p % 256) = B8 (UInt8.ofNat (n * 8 / 2 ^ p)) := by
 have h : ((n : Int) * 8 / 2 ^ p % 256) = ((UInt8.ofNat (n * 8 / 2 ^ p)).toNat : Int) := by simp
 rw [h]
theorem be8_all (c : Nat) : (be8 c).take 8 = be8 c := rfl
theorem be8_length (c : Nat) : (be8 c).length = 8 := rfl

set_option maxRecDepth 100000 in
set_option maxHeartbeats 4000000 in
theorem refSum_any (s : List UInt8) (w : World) (hn : s.length < 549755813888) :
  Calls Tryd.prog 86 #[.string ⟨s.toArray⟩] w fun e w' => e = .returned (.string ⟨(sha s).toArray⟩) ∧ Below w.heap.size w w' := by
 have HN := Lib.hid hn
 clear hn
 go_enter Tryd.func86, Tryd.ntmps86
 go_wp2_with fail
 refine (constants_any _).mono ?_
 rintro e w1 ⟨rfl, hb1⟩
 have hz1 : w.heap.size ≤ w1.heap.size := hb1.size
 obtain ⟨hv, hhv⟩ : ∃ hv, hv = first.vals := ⟨_, rfl⟩
 obtain ⟨kv, hkv⟩ : ∃ kv, kv = kTab.map U32 := ⟨_, rfl⟩
 rw [← hhv, ← hkv]
 replace hhv := Lib.hid hhv
 replace hkv := Lib.hid hkv
 go_wp2_with (first
  | ((with_reducible refine (?_ : wpList _ _ _ (Oper.mk none (.store 127 _ _) _ _ _ _ :: _) _ _)); go_loud (refine wpList_store_blk rfl 127 (.tmp 3) (.tmp 25) rfl rfl w1.heap.size hv rfl rfl 127 (List.replicate 8 (.int .u32 0)) ((Blk.new_of w1 _ _ _ (by rfl)).alloc _) (by rw [hhv.out]; exact info63r) (by rw [hhv.out]; rfl) (by rw [hhv.out]; exact one63r) ?_); intro w2 hH hg2; have hK1 := (Blk.new2_of w1 _ 148 _ (List.replicate 64 (.int .u32 0)) (by rfl)).grown hg2 (by simp); have hb2 := below_new ((hb1.alloc hz1 _).alloc (by simp <;> omega) _) hg2 (by omega) (by simp <;> omega); clear hg2)
  | ((with_reducible refine (?_ : wpList _ _ _ (Oper.mk none (.store 148 _ _) _ _ _ _ :: _) _ _)); go_loud (refine wpList_store_blk rfl 148 (.tmp 4) (.tmp 26) rfl rfl (w1.heap.size + 1) kv rfl rfl 148 _ hK1 (by rw [hkv.out]; exact info64s) (by rw [hkv.out]; rfl) (by rw [hkv.out]; exact one32 _) ?_); intro w3 hK hg3; have hH3 := hH.grown hg3 (by simp); have hb3 := below_new hb2 hg3 (by omega) hb2.size; have hz3 : w1.heap.size + 1 < w3.heap.size := hK.lt; clear hg3 hK1 hb2 hH)
  | ((with_reducible refine (?_ : wpList _ _ _ (Oper.mk (some 28) _ _ _ _ _ :: _) _ _)); go_loud (refine wpList_bytes_of rfl (.tmp 27) rfl s rfl (by have := HN.out; omega) ?_); intro c4 w4 hB4 hb4; have hH4 := hH3.below hb4 (by omega); have hK4 := hK.below hb4 (by omega); have hz4 : w3.heap.size ≤ w4.heap.size := hb4.size; replace hb4 := hb3.trans (hb4.mono hb3.size); clear hH3 hK hb3)
  | ((with_reducible refine (?_ : wpList _ _ _ (Oper.mk (some 30) _ _ _ _ _ :: _) _ _)); go_loud (refine wpList_append_buf rfl (.tmp 28) (.tmp 29) 24 rfl _ _ _ _ _ [128] _ rfl (hB4.alloc _) rfl (src_byte (by refine (new_cell _ _ _).trans ?_; rfl)) (by have := HN.out; simp only [List.length_cons, List.length_nil]; omega) (by simp <;> omega) ?_); intro A5 c5 w5 hB5 hg5; have hH5 := (hH4.alloc _).grown hg5 (ownOf_fresh hB4 (by omega)); have hK5 := (hK4.alloc _).grown hg5 (ownOf_fresh hB4 (by omega)); have hb5 := below_own (hb4.alloc hb4.size _) (hB4.alloc _) hg5 (by omega) (by simp <;> omega); have hz5 : w4.heap.size ≤ w5.heap.size := (by have := hg5.size; simp at this; omega); clear hg5 hB4 hH4 hK4 hb4))
 obtain ⟨z, hzz⟩ : ∃ z, z = (119 - s.length % 64) % 64 := ⟨_, rfl⟩
 have HZ := Lib.hid hzz
 clear hzz
 replace hz5 : w3.heap.size ≤ w5.heap.size := by omega
 clear hz4
 go_loopw [5] (fun v wr => ∃ (k : Nat) (A : Option Addr) (c : Nat), k ≤ z ∧ v = .slice A (s.length + 1 + k) c ∧ Buf wr w3.heap.size A (s.length + 1 + k) c ((s ++ [128]) ++ List.replicate k 0) ∧ Blk wr w1.heap.size 127 hv ∧ Blk wr (w1.heap.size + 1) 148 kv ∧ Below w.heap.size w wr ∧ w3.heap.size ≤ wr.heap.size) (fun v _ => s.length + 65 - lenOf v)
 case atStart => exact ⟨0, A5, c5, by omega, rfl, by simpa using hB5, hH5, hK5, hb5, hz5⟩
 case round =>
  clear hB5 hH5 hK5 hb5 hz5
  obtain ⟨k, A, c, hk, rfl, hB, hH, hK, hb, hz⟩ := hrel
  by_cases hlt : k < z
  ·
   have hd : (((s.length : Int) + 1 + (k : Int)) % 64 != 56) = true := by have := HZ.out; simp; omega
   go_wp2_with ((with_reducible refine (?_ : wpList _ _ _ (Oper.mk (some 37) _ _ _ _ _ :: _) _ _)); go_loud (refine wpList_append_buf rfl (.tmp 35) (.tmp 36) 24 rfl _ _ _ _ _ [0] _ rfl (hB.alloc _) rfl (src_byte (by refine (new_cell _ _ _).trans ?_; rfl)) (by have := HN.out; have := HZ.out; simp only [List.length_cons, List.length_nil]; omega) (by simp <;> omega) ?_); intro A' c' w' hB' hg')
   go_roundw
   case rel =>
    refine ⟨k + 1, A', c', by omega, rfl, ?_, (hH.alloc _).grown hg' (ownOf_fresh hB (by omega)), (hK.alloc _).grown hg' (ownOf_fresh hB (by omega)), below_own (hb.alloc (by omega) _) (hB.alloc _) hg' (by omega) (by simp <;> omega), by have := hg'.size; simp at this; omega⟩
    have e : (s ++ [128] ++ List.replicate k 0) ++ [0] = s ++ [128] ++ List.replicate (k + 1) (0 : UInt8) := by rw [List.append_assoc, ← List.replicate_succ']
    rw [e] at hB'
    exact hB'
   case measure => have := HZ.out; simp [lenOf]; omega
  ·
   have hd : (((s.length : Int) + 1 + (k : Int)) % 64 != 56) = false := by have := HZ.out; simp; omega
   obtain rfl : k = z := by omega
   clear hk hlt
   have hl8 : (((s.length : Int) * 8)) % 18446744073709551616 = ((s.length * 8 : Nat) : Int) := by have := HN.out; omega
   have hl8' : IntKind.u64.wrap ((s.length : Int) * 8) = ((s.length * 8 : Nat) : Int) := by have := HN.out; simp [IntKind.wrap, IntKind.signed, IntKind.bits]; omega
   go_wp2
   obtain ⟨M, hM⟩ : ∃ M, M = s ++ [128] ++ List.replicate k 0 := ⟨_, rfl⟩
   obtain ⟨L, hL⟩ : ∃ L, L = s.length + 1 + k := ⟨_, rfl⟩
   rw [← hM, ← hL] at hB
   have hLk : L = s.length + 1 + k := hL
   rw [← hL]
   clear hd hl8 hl8' hL
   have HL := Lib.hid hLk
   have HM := Lib.hid hM
   clear hLk hM
   obtain ⟨wo, rfl⟩ : ∃ wo : World, wo = wr := ⟨_, rfl⟩
   go_loopw [5, 7] (fun v i wr => ∃ (j : Nat) (A : Option Addr) (c : Nat) (q : Int), j ≤ 8 ∧ Hid (q = 56 - 8 * (j : Int)) ∧ i = .int .i64 q ∧ v = .slice A (L + j) c ∧ Buf wr w3.heap.size A (L + j) c (M ++ (be8 (s.length * 8)).take j) ∧ Blk wr w1.heap.size 127 hv ∧ Blk wr (w1.heap.size + 1) 148 kv ∧ Below w.heap.size w wr ∧ w3.heap.size ≤ wr.heap.size) (fun v _ _ => L + 8 - lenOf v)
   case atStart => exact ⟨0, A, c, 56, by omega, by show _ = _; omega, rfl, rfl, by simpa using hB, hH, hK, hb, hz⟩
   case round =>
    clear hB hH hK hb hz
    obtain ⟨j, A, c, q, hj, HQ, rfl, rfl, hB, hH, hK, hb, hz⟩ := hrel
    by_cases hlt : j < 8
    ·
     obtain ⟨p, rfl⟩ : ∃ p : Nat, q = (p : Int) := ⟨(56 - 8 * j), by have := HQ.out; omega⟩
     have hp : p ≤ 56 := by have := HQ.out; omega
     have hd : decide ((p : Int) ≥ 0) = true := by simp
     have h0 : ¬ ((p : Int) < 0) := by omega
     have h1 : (0 : Int) ≤ (p : Int) := by omega
     have e1 : min p 64 = p := by omega
     have HT := Lib.hid (be8_take (s.length * 8) j p hlt (by have := HQ.out; omega))
     have HLL := Lib.hid (show L + j + 1 ≤ 1099511627776 by have := HN.out; have := HL.out; have := HZ.out; omega)
     go_wp2_with ((with_reducible refine (?_ : wpList _ _ _ (Oper.mk (some 52) _ _ _ _ _ :: _) _ _)); go_loud (refine wpList_append_buf rfl (.tmp 46) (.tmp 51) 24 rfl _ _ _ _ _ [UInt8.ofNat (s.length * 8 / 2 ^ p)] _ rfl (hB.alloc _) rfl (src_byte ((new_cell _ _ _).trans (congrArg some (byte_of _ _)))) HLL.out (by simp <;> omega) ?_); intro A' c' w' hB' hg')
     go_roundw
     case rel =>
      refine ⟨j + 1, A', c', (p : Int) - 8, by omega, by show _ = _; have := HQ.out; omega, rfl, rfl, ?_, (hH.alloc _).grown hg' (ownOf_fresh hB (by omega)), (hK.alloc _).grown hg' (ownOf_fresh hB (by omega)), below_own (hb.alloc (by omega) _) (hB.alloc _) hg' (by omega) (by simp <;> omega), by have := hg'.size; simp at this; omega⟩
      rw [HT.out, ← List.append_assoc]
      exact hB'
     case measure => simp [lenOf]; omega
    ·
     have hj8 : j = 8 := by omega
     have HJ := Lib.hid hj8
     have hd : decide (q ≥ 0) = false := by have := HQ.out; simp; omega
     clear hj8 hj hlt
     go_wp2
     obtain ⟨T, hT⟩ : ∃ T, T = M ++ (be8 (s.length * 8)).take j := ⟨_, rfl⟩
     rw [← hT] at hB
     rw [HJ.out, be8_all, HM.out, pad_parts s k HZ.out] at hT
     have HT := Lib.hid hT
     obtain ⟨J, hJ⟩ : ∃ J, J = T.length / 64 := ⟨_, rfl⟩
     have hTJ : T.length = 64 * J := by rw [hJ, hT, pad_blocks]
     have HTJ := Lib.hid hTJ
     have HJJ := Lib.hid hJ
     have hnT := hB.len
     obtain ⟨n, hn⟩ : ∃ n, n = L + j := ⟨_, rfl⟩
     rw [← hn] at hB hnT ⊢
     have HN8 := Lib.hid (show n = 64 * J by omega)
     have hpos : 0 < n := by have := HL.out; omega
     have HNS := Lib.hid (show n < 1099511627776 by have := HN.out; have := HZ.out; have := HL.out; have := HJ.out; omega)
     obtain ⟨gb, rfl, hgb, hgl, hby⟩ := hB.at hpos
     have hTn : T.length = n := hnT
     clear hT hJ hTJ hn hnT hpos
     have hK2 : Blk wr (w1.heap.size + 1) 148 (kTab.map U32) := by rw [← hkv.out]; exact hK
     have hH2 : Blk wr w1.heap.size 127 ((foldB 0 first T).words.map U32) := by
      have e : hv = (foldB 0 first T).words.map U32 := hhv.out
      rw [← e]; exact hH
     clear hB hH hK
     refine blockLoop w1.heap.size (w1.heap.size + 1) gb n c J T _ _ HNS.out HN8 hTn hby (fun i hi => hK2.at32 i hi) hH2 (by omega) (by omega) (by omega) (by omega) ?_
     intro wz
     intros
     rename_i hH3 hgz
     have hbz := below_new hb hgz hz1 hb.size
     clear hH2 hK2 hby hgz hb
     go_wp2
     refine outLoop w1.heap.size (foldB J first T) _ _ hH3 ?_
     intro wy
     intros
     rename_i A9 c9 hv9 hB9 hb9
     subst hv9
     have hby := hbz.trans (hb9.mono hbz.size)
     have hs9 : Src wy wy.heap.size A9 (bytesOf (foldB J first T)) := hB9.src (fun k e => by have := (hB9.lt e).2; omega)
     have HF : Hid (bytesOf (foldB J first T) = sha s) := by
      show _ = _
      rw [HJJ.out, HT.out]; rfl
     clear hB9 hb9 hbz hH3
     go_wp2_with (with_reducible refine (?_ : wpList _ _ _ (Oper.mk (some 260) _ _ _ _ _ :: _) _ _); go_loud (refine wpList_string_of rfl (.tmp 259) rfl (bytesOf (foldB J first T)) A9 c9 _ rfl hs9 ?_); rw [HF.out])
     go_ret
     exact ⟨rfl, hby⟩

end
end Go.Proofs.YtnjpcbbdhimacaaDoor
