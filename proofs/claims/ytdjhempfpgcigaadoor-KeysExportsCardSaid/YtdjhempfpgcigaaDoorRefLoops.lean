/-
  The contracts of the loops within one block of the document's Sum, each by itself, over a frame of letters.
-/
import Derived.Test.YtdjhempfpgcigaaDoorRefRegs
namespace Go.Proofs.YtdjhempfpgcigaaDoor
open Go.RowKit Go.BigFrame

/-- The innermost loop that holds the region of that number. -/
def loopOf (id : Nat) : Code → Option Code
  | .seq a b => match loopOf id a with
    | some c => some c
    | none => loopOf id b
  | .block _ c => loopOf id c
  | .loop c => match loopOf id c with
    | some d => some d
    | none => if (regionOf id c).isSome then some (.loop c) else none
  | .scope c => loopOf id c
  | .cond _ a b => match loopOf id a with
    | some c => some c
    | none => loopOf id b
  | _ => none
theorem grown_then_below {a b c : World} {r : Option Nat} {D : Nat} (h : a.grownBy b r) (k : Below D b c) (hD : a.heap.size ≤ D) : a.grownBy c r :=
  ⟨k.os.trans h.os, k.tape.trans h.tape, k.output.trans h.output, Nat.le_trans h.size k.size, fun i hi hn => (k.block i (by omega)).trans (h.block i hi hn)⟩
theorem st_one8 (s : St) : s.vals.toArray.all (·.oneCell') = true := by
  rw [Array.all_eq_true_iff_forall_mem]
  intro v hv
  exact vals_one s v (by simpa using hv)
theorem rnd_vals (kk ww : UInt32) (q : St) : Hid (Value.agg #[.int .u32 (((q.h + big1 q.e + choice q.e q.f q.g + kk + ww).toNat + (big0 q.a + majority q.a q.b q.c).toNat : Int) % 4294967296), .int .u32 q.a.toNat, .int .u32 q.b.toNat, .int .u32 q.c.toNat, .int .u32 ((q.d.toNat + (q.h + big1 q.e + choice q.e q.f q.g + kk + ww).toNat : Int) % 4294967296), .int .u32 q.e.toNat, .int .u32 q.f.toNat, .int .u32 q.g.toNat] = .agg (rnd kk ww q).vals.toArray) := by
  show _ = _
  rw [w_add, w_add]; rfl
noncomputable def schedLoopCode : Code := ((Tryd.f35.body.bind (loopOf 15)).getD .skip)
set_option maxRecDepth 1000000 in
set_option maxHeartbeats 4000000 in
theorem schedLoop {t0 t1 t2 t3 t4 t6 t7 t11 t12 t13 t14 t15 t16 t17 t18 t19 t20 t21 t22 t23 t24 t25 t26 t27 t28 t29 t30 t31 t32 t33 t34 t35 t36 t37 t38 t39 t40 t41 t42 t43 t44 t45 t46 t47 t48 t49 t50 t51 t52 t53 t54 t55 t56 t57 t58 t59 t60 t61 t62 t63 t64 t65 t66 t67 t68 t69 t70 t71 t72 t73 t74 t75 t76 t77 t78 t79 t80 t81 t82 t83 t84 t85 t86 t87 t88 t89 t90 t91 t92 t93 t94 t95 t96 t97 t98 t99 t100 t101 t102 t103 t104 t105 t106 t107 t108 t109 t110 t111 t112 t113 t114 t115 t116 t117 t118 t119 t120 t121 t122 t123 t124 t125 t126 t127 t128 t129 t130 t131 t132 t133 t134 t135 t136 t137 t138 t139 t140 t141 t142 t143 t144 t145 t146 t147 t148 t149 t150 t151 t152 t153 t154 t155 t156 t157 t158 t159 t160 t161 t162 t163 t164 t165 t166 t167 t168 t169 t170 t171 t172 t173 t174 t175 t176 t177 t178 t179 t180 t181 t182 t183 t184 t185 t186 t187 t188 t189 t190 t191 t192 t193 t194 t195 t196 t197 t198 t199 t200 t201 t202 t203 t204 t205 t206 t207 t208 t209 t210 t211 t212 t213 t214 t215 t216 t217 t218 t219 t220 t221 t222 t223 t224 t225 t226 t227 t228 t229 t230 t231 t232 t233 t234 t235 t236 t237 t238 t239 t240 t241 t242 t243 t244 t245 t246 t247 t248 t249 t250 t251 t252 t253 t254 t255 t256 t257 t258 t259 t260 : Value} (gb n c p G9 D : Nat) (bs : List UInt8) (wr : World) (Q : Exit → Act → World → Prop) (hp : p + 64 ≤ n) (hn : n < 1099511627776) (hgb : gb < D) (hD : D ≤ G9) (hby : ∀ i, i < 64 → wr.cell? ⟨gb, p + i, none⟩ = some (.int .u8 (bs.getD i 0).toNat)) (hW : Blk wr G9 60 ((schedTo bs 0).map U32))
    (h : ∀ (wz : World) (u10 u11 u12 u13 u59 u60 u61 u62 u63 u64 u65 u66 u67 u68 u69 u70 u71 u72 u73 u74 u75 u76 u77 u78 u79 u80 u81 u82 u83 u84 u85 u86 u87 u88 u89 u90 u91 u92 u93 u94 u95 u96 u97 u98 u99 u100 u101 u102 u103 u104 u105 u106 u107 u108 u109 u110 u111 u112 u113 u114 u115 u116 u117 u118 u119 u120 u121 u122 u123 u124 u125 u126 u127 u128 u129 u130 u131 u132 u133 u134 u135 u136 : Value), Blk wz G9 60 ((schedTo bs 64).map U32) → Below D wr wz → Q (.exit 6) ⟨(t0 :: t1 :: t2 :: t3 :: t4 :: .slice (some ⟨gb, 0, none⟩) n c :: t6 :: t7 :: .int .i64 (p : Int) :: .pointer (some ⟨G9, 0, none⟩) :: u10 :: u11 :: u12 :: u13 :: t14 :: t15 :: t16 :: t17 :: t18 :: t19 :: t20 :: t21 :: t22 :: t23 :: t24 :: t25 :: t26 :: t27 :: t28 :: t29 :: t30 :: t31 :: t32 :: t33 :: t34 :: t35 :: t36 :: t37 :: t38 :: t39 :: t40 :: t41 :: t42 :: t43 :: t44 :: t45 :: t46 :: t47 :: t48 :: t49 :: t50 :: t51 :: t52 :: t53 :: t54 :: t55 :: t56 :: t57 :: t58 :: u59 :: u60 :: u61 :: u62 :: u63 :: u64 :: u65 :: u66 :: u67 :: u68 :: u69 :: u70 :: u71 :: u72 :: u73 :: u74 :: u75 :: u76 :: u77 :: u78 :: u79 :: u80 :: u81 :: u82 :: u83 :: u84 :: u85 :: u86 :: u87 :: u88 :: u89 :: u90 :: u91 :: u92 :: u93 :: u94 :: u95 :: u96 :: u97 :: u98 :: u99 :: u100 :: u101 :: u102 :: u103 :: u104 :: u105 :: u106 :: u107 :: u108 :: u109 :: u110 :: u111 :: u112 :: u113 :: u114 :: u115 :: u116 :: u117 :: u118 :: u119 :: u120 :: u121 :: u122 :: u123 :: u124 :: u125 :: u126 :: u127 :: u128 :: u129 :: u130 :: u131 :: u132 :: u133 :: u134 :: u135 :: u136 :: t137 :: t138 :: t139 :: t140 :: t141 :: t142 :: t143 :: t144 :: t145 :: t146 :: t147 :: t148 :: t149 :: t150 :: t151 :: t152 :: t153 :: t154 :: t155 :: t156 :: t157 :: t158 :: t159 :: t160 :: t161 :: t162 :: t163 :: t164 :: t165 :: t166 :: t167 :: t168 :: t169 :: t170 :: t171 :: t172 :: t173 :: t174 :: t175 :: t176 :: t177 :: t178 :: t179 :: t180 :: t181 :: t182 :: t183 :: t184 :: t185 :: t186 :: t187 :: t188 :: t189 :: t190 :: t191 :: t192 :: t193 :: t194 :: t195 :: t196 :: t197 :: t198 :: t199 :: t200 :: t201 :: t202 :: t203 :: t204 :: t205 :: t206 :: t207 :: t208 :: t209 :: t210 :: t211 :: t212 :: t213 :: t214 :: t215 :: t216 :: t217 :: t218 :: t219 :: t220 :: t221 :: t222 :: t223 :: t224 :: t225 :: t226 :: t227 :: t228 :: t229 :: t230 :: t231 :: t232 :: t233 :: t234 :: t235 :: t236 :: t237 :: t238 :: t239 :: t240 :: t241 :: t242 :: t243 :: t244 :: t245 :: t246 :: t247 :: t248 :: t249 :: t250 :: t251 :: t252 :: t253 :: t254 :: t255 :: t256 :: t257 :: t258 :: t259 :: t260 :: []).toArray, []⟩ wz) :
    schedLoopCode.wp Tryd.prog Q ⟨(t0 :: t1 :: t2 :: t3 :: t4 :: .slice (some ⟨gb, 0, none⟩) n c :: t6 :: t7 :: .int .i64 (p : Int) :: .pointer (some ⟨G9, 0, none⟩) :: .int .i64 0 :: t11 :: t12 :: t13 :: t14 :: t15 :: t16 :: t17 :: t18 :: t19 :: t20 :: t21 :: t22 :: t23 :: t24 :: t25 :: t26 :: t27 :: t28 :: t29 :: t30 :: t31 :: t32 :: t33 :: t34 :: t35 :: t36 :: t37 :: t38 :: t39 :: t40 :: t41 :: t42 :: t43 :: t44 :: t45 :: t46 :: t47 :: t48 :: t49 :: t50 :: t51 :: t52 :: t53 :: t54 :: t55 :: t56 :: t57 :: t58 :: t59 :: t60 :: t61 :: t62 :: t63 :: t64 :: t65 :: t66 :: t67 :: t68 :: t69 :: t70 :: t71 :: t72 :: t73 :: t74 :: t75 :: t76 :: t77 :: t78 :: t79 :: t80 :: t81 :: t82 :: t83 :: t84 :: t85 :: t86 :: t87 :: t88 :: t89 :: t90 :: t91 :: t92 :: t93 :: t94 :: t95 :: t96 :: t97 :: t98 :: t99 :: t100 :: t101 :: t102 :: t103 :: t104 :: t105 :: t106 :: t107 :: t108 :: t109 :: t110 :: t111 :: t112 :: t113 :: t114 :: t115 :: t116 :: t117 :: t118 :: t119 :: t120 :: t121 :: t122 :: t123 :: t124 :: t125 :: t126 :: t127 :: t128 :: t129 :: t130 :: t131 :: t132 :: t133 :: t134 :: t135 :: t136 :: t137 :: t138 :: t139 :: t140 :: t141 :: t142 :: t143 :: t144 :: t145 :: t146 :: t147 :: t148 :: t149 :: t150 :: t151 :: t152 :: t153 :: t154 :: t155 :: t156 :: t157 :: t158 :: t159 :: t160 :: t161 :: t162 :: t163 :: t164 :: t165 :: t166 :: t167 :: t168 :: t169 :: t170 :: t171 :: t172 :: t173 :: t174 :: t175 :: t176 :: t177 :: t178 :: t179 :: t180 :: t181 :: t182 :: t183 :: t184 :: t185 :: t186 :: t187 :: t188 :: t189 :: t190 :: t191 :: t192 :: t193 :: t194 :: t195 :: t196 :: t197 :: t198 :: t199 :: t200 :: t201 :: t202 :: t203 :: t204 :: t205 :: t206 :: t207 :: t208 :: t209 :: t210 :: t211 :: t212 :: t213 :: t214 :: t215 :: t216 :: t217 :: t218 :: t219 :: t220 :: t221 :: t222 :: t223 :: t224 :: t225 :: t226 :: t227 :: t228 :: t229 :: t230 :: t231 :: t232 :: t233 :: t234 :: t235 :: t236 :: t237 :: t238 :: t239 :: t240 :: t241 :: t242 :: t243 :: t244 :: t245 :: t246 :: t247 :: t248 :: t249 :: t250 :: t251 :: t252 :: t253 :: t254 :: t255 :: t256 :: t257 :: t258 :: t259 :: t260 :: []).toArray, []⟩ wr := by
  conv => arg 2; whnf
  go_loopw [10] (fun i w6 => ∃ k : Nat, k ≤ 64 ∧ i = .int .i64 (k : Int) ∧ Blk w6 G9 60 ((schedTo bs k).map U32) ∧ Below D wr w6) (fun i _ => 64 - (intOf i).toNat)
  case atStart => exact ⟨0, by omega, rfl, hW, Below.refl _ _⟩
  case round =>
    clear hW
    obtain ⟨k, hk, rfl, hW, hb⟩ := hrel
    by_cases hk64 : k < 64
    · have hd : decide ((k : Int) < 64) = true := by simp; omega
      have hsl := schedTo_length bs k
      by_cases hk16 : k < 16
      · have hd2 : decide ((k : Int) < 16) = true := by simp; omega
        have HLW := Lib.hid (schedTo_low bs k hk16)
        have c0 := (hb.cell (p := ⟨gb, p + (4 * k), none⟩) hgb).trans (hby (4 * k) (by omega))
        have c1 := (hb.cell (p := ⟨gb, p + (4 * k + 1), none⟩) hgb).trans (hby (4 * k + 1) (by omega))
        have c2 := (hb.cell (p := ⟨gb, p + (4 * k + 2), none⟩) hgb).trans (hby (4 * k + 2) (by omega))
        have c3 := (hb.cell (p := ⟨gb, p + (4 * k + 3), none⟩) hgb).trans (hby (4 * k + 3) (by omega))
        obtain ⟨x, hx⟩ : ∃ x, x = p + 4 * k := ⟨_, rfl⟩
        have hxi : (p : Int) + 4 * (k : Int) = (x : Int) := by omega
        simp only [← Nat.add_assoc, ← hx] at c0 c1 c2 c3
        have b3 : x + 3 < n := by omega
        have cw := hW.at32 k (by omega)
        have cf := hW.frozen k
        clear hsl hx
        go_wp2
        clear hxi
        refine reg19 gb G9 n c k x _ _ _ _ _ _ _ hk64 b3 hn c0 c1 c2 c3 cw cf ?_
        intros
        rename_i nq _ _ _ _ _ _ _ _ _ _ _ _ _ _ _ _ _ _ _ _ _ _ _ _ _ _ _ _ _ _ _
        go_wp2
        go_roundw
        case rel =>
          refine ⟨k + 1, by omega, by go_num, ?_, (below_drewN hb nq).setCell hD _⟩
          rw [HLW.out, ← map_set32]
          exact (hW.drewN nq).set_ k _
        case measure => simp [intOf]; omega
      · have hd2 : decide ((k : Int) < 16) = false := by simp; omega
        have hk0 : 16 ≤ k := by omega
        have HLW := Lib.hid (schedTo_high bs k hk16)
        have c15 := hW.at32 (k - 15) (by omega)
        have c2 := hW.at32 (k - 2) (by omega)
        have c16 := hW.at32 (k - 16) (by omega)
        have c7 := hW.at32 (k - 7) (by omega)
        have cw := hW.at32 k (by omega)
        have cf := hW.frozen k
        clear hk16 hsl
        go_wp2
        refine reg20 G9 k _ _ _ _ hk0 hk64 c15 c2 ?_
        intros
        rename_i nq _ _ _ _ _ _ _ _
        go_wp2
        refine reg21 G9 k _ _ _ _ _ _ _ hk0 hk64 c16 c7 cw cf ?_
        intros
        rename_i nq2 _ _ _ _ _ _ _ _ _ _ _ _ _ _ _ _ _ _ _ _ _ _ _ _ _ _ _ _ _
        go_wp2
        go_roundw
        case rel =>
          refine ⟨k + 1, by omega, by go_num, ?_, (below_drewN hb (nq + nq2)).setCell hD _⟩
          rw [HLW.out, ← map_set32]
          simp only [List.getD_eq_getElem?_getD]
          exact (hW.drewN (nq + nq2)).set_ k _
        case measure => simp [intOf]; omega
    · have hd : decide ((k : Int) < 64) = false := by simp; omega
      obtain rfl : k = 64 := by omega
      go_wp2
      exact h _ _ _ _ _ _ _ _ _ _ _ _ _ _ _ _ _ _ _ _ _ _ _ _ _ _ _ _ _ _ _ _ _ _ _ _ _ _ _ _ _ _ _ _ _ _ _ _ _ _ _ _ _ _ _ _ _ _ _ _ _ _ _ _ _ _ _ _ _ _ _ _ _ _ _ _ _ _ _ _ _ _ _ hW hb

noncomputable def roundLoopCode : Code := ((Tryd.f35.body.bind (loopOf 24)).getD .skip)
set_option maxRecDepth 1000000 in
set_option maxHeartbeats 4000000 in
theorem roundLoop {t0 t1 t2 t3 t5 t6 t7 t8 t10 t11 t12 t13 t16 t17 t18 t19 t20 t21 t22 t23 t24 t25 t26 t27 t28 t29 t30 t31 t32 t33 t34 t35 t36 t37 t38 t39 t40 t41 t42 t43 t44 t45 t46 t47 t48 t49 t50 t51 t52 t53 t54 t55 t56 t57 t58 t59 t60 t61 t62 t63 t64 t65 t66 t67 t68 t69 t70 t71 t72 t73 t74 t75 t76 t77 t78 t79 t80 t81 t82 t83 t84 t85 t86 t87 t88 t89 t90 t91 t92 t93 t94 t95 t96 t97 t98 t99 t100 t101 t102 t103 t104 t105 t106 t107 t108 t109 t110 t111 t112 t113 t114 t115 t116 t117 t118 t119 t120 t121 t122 t123 t124 t125 t126 t127 t128 t129 t130 t131 t132 t133 t134 t135 t136 t137 t138 t139 t140 t141 t142 t143 t144 t145 t146 t147 t148 t149 t150 t151 t152 t153 t154 t155 t156 t157 t158 t159 t160 t161 t162 t163 t164 t165 t166 t167 t168 t169 t170 t171 t172 t173 t174 t175 t176 t177 t178 t179 t180 t181 t182 t183 t184 t185 t186 t187 t188 t189 t190 t191 t192 t193 t194 t195 t196 t197 t198 t199 t200 t201 t202 t203 t204 t205 t206 t207 t208 t209 t210 t211 t212 t213 t214 t215 t216 t217 t218 t219 t220 t221 t222 t223 t224 t225 t226 t227 t228 t229 t230 t231 t232 t233 t234 t235 t236 t237 t238 t239 t240 t241 t242 t243 t244 t245 t246 t247 t248 t249 t250 t251 t252 t253 t254 t255 t256 t257 t258 t259 t260 : Value} (gk gw g D : Nat) (W : List UInt32) (s : St) (wr : World) (Q : Exit → Act → World → Prop) (hgk : gk < D) (hgw : gw < D) (hD : D ≤ g) (hk : ∀ i, i < 64 → wr.cell? ⟨gk, i, none⟩ = some (.int .u32 (kTab.getD i 0).toNat)) (hw : ∀ i, i < 64 → wr.cell? ⟨gw, i, none⟩ = some (.int .u32 (W.getD i 0).toNat)) (hs : Blk wr g 59 s.vals) (hsz : D ≤ wr.heap.size)
    (h : ∀ (wz : World) (u15 u16 u17 u18 u19 u138 u139 u140 u141 u142 u143 u144 u145 u146 u147 u148 u149 u150 u151 u152 u153 u154 u155 u156 u157 u158 u159 u160 u161 u162 u163 u164 u165 u166 u167 u168 u169 u170 u171 u172 u173 u174 u175 u176 u177 u178 u179 u180 u181 u182 u183 u184 u185 u186 u187 u188 u189 u190 u191 u192 u193 u194 u195 u196 u197 u198 u199 u200 u201 u202 u203 u204 u205 u206 u207 u208 u209 u210 u211 u212 u213 u214 u215 u216 u217 u218 u219 : Value), Blk wz g 59 (rnds W 64 s).vals → Below D wr wz → Q (.exit 8) ⟨(t0 :: t1 :: t2 :: t3 :: .pointer (some ⟨gk, 0, none⟩) :: t5 :: t6 :: t7 :: t8 :: .pointer (some ⟨gw, 0, none⟩) :: t10 :: t11 :: t12 :: t13 :: .pointer (some ⟨g, 0, none⟩) :: u15 :: u16 :: u17 :: u18 :: u19 :: t20 :: t21 :: t22 :: t23 :: t24 :: t25 :: t26 :: t27 :: t28 :: t29 :: t30 :: t31 :: t32 :: t33 :: t34 :: t35 :: t36 :: t37 :: t38 :: t39 :: t40 :: t41 :: t42 :: t43 :: t44 :: t45 :: t46 :: t47 :: t48 :: t49 :: t50 :: t51 :: t52 :: t53 :: t54 :: t55 :: t56 :: t57 :: t58 :: t59 :: t60 :: t61 :: t62 :: t63 :: t64 :: t65 :: t66 :: t67 :: t68 :: t69 :: t70 :: t71 :: t72 :: t73 :: t74 :: t75 :: t76 :: t77 :: t78 :: t79 :: t80 :: t81 :: t82 :: t83 :: t84 :: t85 :: t86 :: t87 :: t88 :: t89 :: t90 :: t91 :: t92 :: t93 :: t94 :: t95 :: t96 :: t97 :: t98 :: t99 :: t100 :: t101 :: t102 :: t103 :: t104 :: t105 :: t106 :: t107 :: t108 :: t109 :: t110 :: t111 :: t112 :: t113 :: t114 :: t115 :: t116 :: t117 :: t118 :: t119 :: t120 :: t121 :: t122 :: t123 :: t124 :: t125 :: t126 :: t127 :: t128 :: t129 :: t130 :: t131 :: t132 :: t133 :: t134 :: t135 :: t136 :: t137 :: u138 :: u139 :: u140 :: u141 :: u142 :: u143 :: u144 :: u145 :: u146 :: u147 :: u148 :: u149 :: u150 :: u151 :: u152 :: u153 :: u154 :: u155 :: u156 :: u157 :: u158 :: u159 :: u160 :: u161 :: u162 :: u163 :: u164 :: u165 :: u166 :: u167 :: u168 :: u169 :: u170 :: u171 :: u172 :: u173 :: u174 :: u175 :: u176 :: u177 :: u178 :: u179 :: u180 :: u181 :: u182 :: u183 :: u184 :: u185 :: u186 :: u187 :: u188 :: u189 :: u190 :: u191 :: u192 :: u193 :: u194 :: u195 :: u196 :: u197 :: u198 :: u199 :: u200 :: u201 :: u202 :: u203 :: u204 :: u205 :: u206 :: u207 :: u208 :: u209 :: u210 :: u211 :: u212 :: u213 :: u214 :: u215 :: u216 :: u217 :: u218 :: u219 :: t220 :: t221 :: t222 :: t223 :: t224 :: t225 :: t226 :: t227 :: t228 :: t229 :: t230 :: t231 :: t232 :: t233 :: t234 :: t235 :: t236 :: t237 :: t238 :: t239 :: t240 :: t241 :: t242 :: t243 :: t244 :: t245 :: t246 :: t247 :: t248 :: t249 :: t250 :: t251 :: t252 :: t253 :: t254 :: t255 :: t256 :: t257 :: t258 :: t259 :: t260 :: []).toArray, []⟩ wz) :
    roundLoopCode.wp Tryd.prog Q ⟨(t0 :: t1 :: t2 :: t3 :: .pointer (some ⟨gk, 0, none⟩) :: t5 :: t6 :: t7 :: t8 :: .pointer (some ⟨gw, 0, none⟩) :: t10 :: t11 :: t12 :: t13 :: .pointer (some ⟨g, 0, none⟩) :: .int .i64 0 :: t16 :: t17 :: t18 :: t19 :: t20 :: t21 :: t22 :: t23 :: t24 :: t25 :: t26 :: t27 :: t28 :: t29 :: t30 :: t31 :: t32 :: t33 :: t34 :: t35 :: t36 :: t37 :: t38 :: t39 :: t40 :: t41 :: t42 :: t43 :: t44 :: t45 :: t46 :: t47 :: t48 :: t49 :: t50 :: t51 :: t52 :: t53 :: t54 :: t55 :: t56 :: t57 :: t58 :: t59 :: t60 :: t61 :: t62 :: t63 :: t64 :: t65 :: t66 :: t67 :: t68 :: t69 :: t70 :: t71 :: t72 :: t73 :: t74 :: t75 :: t76 :: t77 :: t78 :: t79 :: t80 :: t81 :: t82 :: t83 :: t84 :: t85 :: t86 :: t87 :: t88 :: t89 :: t90 :: t91 :: t92 :: t93 :: t94 :: t95 :: t96 :: t97 :: t98 :: t99 :: t100 :: t101 :: t102 :: t103 :: t104 :: t105 :: t106 :: t107 :: t108 :: t109 :: t110 :: t111 :: t112 :: t113 :: t114 :: t115 :: t116 :: t117 :: t118 :: t119 :: t120 :: t121 :: t122 :: t123 :: t124 :: t125 :: t126 :: t127 :: t128 :: t129 :: t130 :: t131 :: t132 :: t133 :: t134 :: t135 :: t136 :: t137 :: t138 :: t139 :: t140 :: t141 :: t142 :: t143 :: t144 :: t145 :: t146 :: t147 :: t148 :: t149 :: t150 :: t151 :: t152 :: t153 :: t154 :: t155 :: t156 :: t157 :: t158 :: t159 :: t160 :: t161 :: t162 :: t163 :: t164 :: t165 :: t166 :: t167 :: t168 :: t169 :: t170 :: t171 :: t172 :: t173 :: t174 :: t175 :: t176 :: t177 :: t178 :: t179 :: t180 :: t181 :: t182 :: t183 :: t184 :: t185 :: t186 :: t187 :: t188 :: t189 :: t190 :: t191 :: t192 :: t193 :: t194 :: t195 :: t196 :: t197 :: t198 :: t199 :: t200 :: t201 :: t202 :: t203 :: t204 :: t205 :: t206 :: t207 :: t208 :: t209 :: t210 :: t211 :: t212 :: t213 :: t214 :: t215 :: t216 :: t217 :: t218 :: t219 :: t220 :: t221 :: t222 :: t223 :: t224 :: t225 :: t226 :: t227 :: t228 :: t229 :: t230 :: t231 :: t232 :: t233 :: t234 :: t235 :: t236 :: t237 :: t238 :: t239 :: t240 :: t241 :: t242 :: t243 :: t244 :: t245 :: t246 :: t247 :: t248 :: t249 :: t250 :: t251 :: t252 :: t253 :: t254 :: t255 :: t256 :: t257 :: t258 :: t259 :: t260 :: []).toArray, []⟩ wr := by
  conv => arg 2; whnf
  have HI := info63r
  go_loopw [15] (fun i w6 => ∃ (k : Nat) (q : St), k ≤ 64 ∧ i = .int .i64 (k : Int) ∧ Hid (q = rnds W k s) ∧ Blk w6 g 59 q.vals ∧ Below D wr w6) (fun i _ => 64 - (intOf i).toNat)
  case atStart => exact ⟨0, s, by omega, rfl, (show _ = _ from rfl), hs, Below.refl _ _⟩
  case round =>
    clear hs
    obtain ⟨k, q, hk64, rfl, HQ, hs, hb⟩ := hrel
    by_cases hlt : k < 64
    · have hd : decide ((k : Int) < 64) = true := by simp; omega
      have ck := (hb.cell (p := ⟨gk, k, none⟩) hgk).trans (hk k hlt)
      have cw := (hb.cell (p := ⟨gw, k, none⟩) hgw).trans (hw k hlt)
      obtain ⟨kk, hkk⟩ : ∃ x, x = kTab.getD k 0 := ⟨_, rfl⟩
      obtain ⟨ww, hww⟩ : ∃ x, x = W.getD k 0 := ⟨_, rfl⟩
      rw [← hkk] at ck
      rw [← hww] at cw
      have HKK := Lib.hid hkk
      have HWW := Lib.hid hww
      clear hkk hww
      have c0 : World.cell? _ ⟨g, 0, none⟩ = some (.int .u32 q.a.toNat) := hs.cell 0
      have c1 : World.cell? _ ⟨g, 1, none⟩ = some (.int .u32 q.b.toNat) := hs.cell 1
      have c2 : World.cell? _ ⟨g, 2, none⟩ = some (.int .u32 q.c.toNat) := hs.cell 2
      have c3 : World.cell? _ ⟨g, 3, none⟩ = some (.int .u32 q.d.toNat) := hs.cell 3
      have c4 : World.cell? _ ⟨g, 4, none⟩ = some (.int .u32 q.e.toNat) := hs.cell 4
      have c5 : World.cell? _ ⟨g, 5, none⟩ = some (.int .u32 q.f.toNat) := hs.cell 5
      have c6 : World.cell? _ ⟨g, 6, none⟩ = some (.int .u32 q.g.toNat) := hs.cell 6
      have c7 : World.cell? _ ⟨g, 7, none⟩ = some (.int .u32 q.h.toNat) := hs.cell 7
      go_wp2
      refine reg26 g q _ _ c0 c4 ?_
      intros
      rename_i n1 _ _ _ _
      go_wp2
      refine reg27 g gk gw k q _ _ _ _ hlt c5 c6 c7 ck cw ?_
      intros
      rename_i n2 _ _ _ _ _ _ _ _ _ _ _ _ _ _ _ _ _ _ _ _ _ _ _ _ _ _ _ _ _ _
      go_wp2
      refine reg28 g q _ _ c1 c2 ?_
      intros
      rename_i n3 _ _ _ _ _ _ _ _ _ _ _ _ _ _ _ _ _ _ _ _ _ _ _ _
      have hs3 := ((hs.drewN n1).drewN n2).drewN n3
      have hb3 := below_drewN (below_drewN (below_drewN hb n1) n2) n3
      generalize ((World.drewN _ n1).drewN n2).drewN n3 = w9 at *
      clear ck cw c0 c1 c2 c3 c4 c5 c6 c7
      have c0 : w9.cell? ⟨g, 0, none⟩ = some (.int .u32 q.a.toNat) := hs3.cell 0
      have c1 : w9.cell? ⟨g, 1, none⟩ = some (.int .u32 q.b.toNat) := hs3.cell 1
      have c2 : w9.cell? ⟨g, 2, none⟩ = some (.int .u32 q.c.toNat) := hs3.cell 2
      have c3 : w9.cell? ⟨g, 3, none⟩ = some (.int .u32 q.d.toNat) := hs3.cell 3
      have c4 : w9.cell? ⟨g, 4, none⟩ = some (.int .u32 q.e.toNat) := hs3.cell 4
      have c5 : w9.cell? ⟨g, 5, none⟩ = some (.int .u32 q.f.toNat) := hs3.cell 5
      have c6 : w9.cell? ⟨g, 6, none⟩ = some (.int .u32 q.g.toNat) := hs3.cell 6
      have HV := rnd_vals kk ww q
      generalize q.h + big1 q.e + choice q.e q.f q.g + kk + ww = T1 at *
      generalize big0 q.a + majority q.a q.b q.c = T2 at *
      go_wp2_with ((with_reducible refine (?_ : wpList _ _ _ (Oper.mk none (.store 59 _ _) _ _ _ _ :: _) _ _)); go_loud (refine wpList_store_blk rfl 59 (.tmp 14) (.tmp 219) rfl rfl g (rnd kk ww q).vals rfl HV.out 59 _ hs3 HI rfl (st_one8 _) ?_); intro w10 hs4 hg4)
      go_roundw
      case rel =>
        refine ⟨k + 1, rnd kk ww q, by omega, by go_num, ?_, hs4, hb3.trans (grown_below hg4 hD (Nat.le_trans hsz hb3.size))⟩
        show _ = _
        rw [HQ.out, HKK.out, HWW.out]; rfl
      case measure => simp [intOf]; omega
    · have hd : decide ((k : Int) < 64) = false := by simp; omega
      obtain rfl : k = 64 := by omega
      go_wp2
      rw [HQ.out] at hs
      exact h _ _ _ _ _ _ _ _ _ _ _ _ _ _ _ _ _ _ _ _ _ _ _ _ _ _ _ _ _ _ _ _ _ _ _ _ _ _ _ _ _ _ _ _ _ _ _ _ _ _ _ _ _ _ _ _ _ _ _ _ _ _ _ _ _ _ _ _ _ _ _ _ _ _ _ _ _ _ _ _ _ _ _ _ _ _ _ _ hs hb

noncomputable def addLoopCode : Code := ((Tryd.f35.body.bind (loopOf 31)).getD .skip)
set_option maxRecDepth 1000000 in
set_option maxHeartbeats 4000000 in
theorem addLoop {t0 t1 t2 t4 t5 t6 t7 t8 t9 t10 t11 t12 t13 t15 t16 t17 t18 t19 t21 t22 t23 t24 t25 t26 t27 t28 t29 t30 t31 t32 t33 t34 t35 t36 t37 t38 t39 t40 t41 t42 t43 t44 t45 t46 t47 t48 t49 t50 t51 t52 t53 t54 t55 t56 t57 t58 t59 t60 t61 t62 t63 t64 t65 t66 t67 t68 t69 t70 t71 t72 t73 t74 t75 t76 t77 t78 t79 t80 t81 t82 t83 t84 t85 t86 t87 t88 t89 t90 t91 t92 t93 t94 t95 t96 t97 t98 t99 t100 t101 t102 t103 t104 t105 t106 t107 t108 t109 t110 t111 t112 t113 t114 t115 t116 t117 t118 t119 t120 t121 t122 t123 t124 t125 t126 t127 t128 t129 t130 t131 t132 t133 t134 t135 t136 t137 t138 t139 t140 t141 t142 t143 t144 t145 t146 t147 t148 t149 t150 t151 t152 t153 t154 t155 t156 t157 t158 t159 t160 t161 t162 t163 t164 t165 t166 t167 t168 t169 t170 t171 t172 t173 t174 t175 t176 t177 t178 t179 t180 t181 t182 t183 t184 t185 t186 t187 t188 t189 t190 t191 t192 t193 t194 t195 t196 t197 t198 t199 t200 t201 t202 t203 t204 t205 t206 t207 t208 t209 t210 t211 t212 t213 t214 t215 t216 t217 t218 t219 t220 t221 t222 t223 t224 t225 t226 t227 t228 t229 t230 t231 t232 t233 t234 t235 t236 t237 t238 t239 t240 t241 t242 t243 t244 t245 t246 t247 t248 t249 t250 t251 t252 t253 t254 t255 t256 t257 t258 t259 t260 : Value} (g g' : Nat) (s q : St) (wr : World) (Q : Exit → Act → World → Prop) (hne : g' ≠ g) (hs : Blk wr g 59 (s.words.map U32)) (hq : Blk wr g' 59 (q.words.map U32))
    (h : ∀ (wz : World) (u20 u220 u221 u222 u223 u224 u225 u226 u227 u228 u229 u230 u231 u232 : Value), Blk wz g 59 ((addSt s q).words.map U32) → wr.grownBy wz (some g) → Q (.exit 10) ⟨(t0 :: t1 :: t2 :: .pointer (some ⟨g, 0, none⟩) :: t4 :: t5 :: t6 :: t7 :: t8 :: t9 :: t10 :: t11 :: t12 :: t13 :: .pointer (some ⟨g', 0, none⟩) :: t15 :: t16 :: t17 :: t18 :: t19 :: u20 :: t21 :: t22 :: t23 :: t24 :: t25 :: t26 :: t27 :: t28 :: t29 :: t30 :: t31 :: t32 :: t33 :: t34 :: t35 :: t36 :: t37 :: t38 :: t39 :: t40 :: t41 :: t42 :: t43 :: t44 :: t45 :: t46 :: t47 :: t48 :: t49 :: t50 :: t51 :: t52 :: t53 :: t54 :: t55 :: t56 :: t57 :: t58 :: t59 :: t60 :: t61 :: t62 :: t63 :: t64 :: t65 :: t66 :: t67 :: t68 :: t69 :: t70 :: t71 :: t72 :: t73 :: t74 :: t75 :: t76 :: t77 :: t78 :: t79 :: t80 :: t81 :: t82 :: t83 :: t84 :: t85 :: t86 :: t87 :: t88 :: t89 :: t90 :: t91 :: t92 :: t93 :: t94 :: t95 :: t96 :: t97 :: t98 :: t99 :: t100 :: t101 :: t102 :: t103 :: t104 :: t105 :: t106 :: t107 :: t108 :: t109 :: t110 :: t111 :: t112 :: t113 :: t114 :: t115 :: t116 :: t117 :: t118 :: t119 :: t120 :: t121 :: t122 :: t123 :: t124 :: t125 :: t126 :: t127 :: t128 :: t129 :: t130 :: t131 :: t132 :: t133 :: t134 :: t135 :: t136 :: t137 :: t138 :: t139 :: t140 :: t141 :: t142 :: t143 :: t144 :: t145 :: t146 :: t147 :: t148 :: t149 :: t150 :: t151 :: t152 :: t153 :: t154 :: t155 :: t156 :: t157 :: t158 :: t159 :: t160 :: t161 :: t162 :: t163 :: t164 :: t165 :: t166 :: t167 :: t168 :: t169 :: t170 :: t171 :: t172 :: t173 :: t174 :: t175 :: t176 :: t177 :: t178 :: t179 :: t180 :: t181 :: t182 :: t183 :: t184 :: t185 :: t186 :: t187 :: t188 :: t189 :: t190 :: t191 :: t192 :: t193 :: t194 :: t195 :: t196 :: t197 :: t198 :: t199 :: t200 :: t201 :: t202 :: t203 :: t204 :: t205 :: t206 :: t207 :: t208 :: t209 :: t210 :: t211 :: t212 :: t213 :: t214 :: t215 :: t216 :: t217 :: t218 :: t219 :: u220 :: u221 :: u222 :: u223 :: u224 :: u225 :: u226 :: u227 :: u228 :: u229 :: u230 :: u231 :: u232 :: t233 :: t234 :: t235 :: t236 :: t237 :: t238 :: t239 :: t240 :: t241 :: t242 :: t243 :: t244 :: t245 :: t246 :: t247 :: t248 :: t249 :: t250 :: t251 :: t252 :: t253 :: t254 :: t255 :: t256 :: t257 :: t258 :: t259 :: t260 :: []).toArray, []⟩ wz) :
    addLoopCode.wp Tryd.prog Q ⟨(t0 :: t1 :: t2 :: .pointer (some ⟨g, 0, none⟩) :: t4 :: t5 :: t6 :: t7 :: t8 :: t9 :: t10 :: t11 :: t12 :: t13 :: .pointer (some ⟨g', 0, none⟩) :: t15 :: t16 :: t17 :: t18 :: t19 :: .int .i64 0 :: t21 :: t22 :: t23 :: t24 :: t25 :: t26 :: t27 :: t28 :: t29 :: t30 :: t31 :: t32 :: t33 :: t34 :: t35 :: t36 :: t37 :: t38 :: t39 :: t40 :: t41 :: t42 :: t43 :: t44 :: t45 :: t46 :: t47 :: t48 :: t49 :: t50 :: t51 :: t52 :: t53 :: t54 :: t55 :: t56 :: t57 :: t58 :: t59 :: t60 :: t61 :: t62 :: t63 :: t64 :: t65 :: t66 :: t67 :: t68 :: t69 :: t70 :: t71 :: t72 :: t73 :: t74 :: t75 :: t76 :: t77 :: t78 :: t79 :: t80 :: t81 :: t82 :: t83 :: t84 :: t85 :: t86 :: t87 :: t88 :: t89 :: t90 :: t91 :: t92 :: t93 :: t94 :: t95 :: t96 :: t97 :: t98 :: t99 :: t100 :: t101 :: t102 :: t103 :: t104 :: t105 :: t106 :: t107 :: t108 :: t109 :: t110 :: t111 :: t112 :: t113 :: t114 :: t115 :: t116 :: t117 :: t118 :: t119 :: t120 :: t121 :: t122 :: t123 :: t124 :: t125 :: t126 :: t127 :: t128 :: t129 :: t130 :: t131 :: t132 :: t133 :: t134 :: t135 :: t136 :: t137 :: t138 :: t139 :: t140 :: t141 :: t142 :: t143 :: t144 :: t145 :: t146 :: t147 :: t148 :: t149 :: t150 :: t151 :: t152 :: t153 :: t154 :: t155 :: t156 :: t157 :: t158 :: t159 :: t160 :: t161 :: t162 :: t163 :: t164 :: t165 :: t166 :: t167 :: t168 :: t169 :: t170 :: t171 :: t172 :: t173 :: t174 :: t175 :: t176 :: t177 :: t178 :: t179 :: t180 :: t181 :: t182 :: t183 :: t184 :: t185 :: t186 :: t187 :: t188 :: t189 :: t190 :: t191 :: t192 :: t193 :: t194 :: t195 :: t196 :: t197 :: t198 :: t199 :: t200 :: t201 :: t202 :: t203 :: t204 :: t205 :: t206 :: t207 :: t208 :: t209 :: t210 :: t211 :: t212 :: t213 :: t214 :: t215 :: t216 :: t217 :: t218 :: t219 :: t220 :: t221 :: t222 :: t223 :: t224 :: t225 :: t226 :: t227 :: t228 :: t229 :: t230 :: t231 :: t232 :: t233 :: t234 :: t235 :: t236 :: t237 :: t238 :: t239 :: t240 :: t241 :: t242 :: t243 :: t244 :: t245 :: t246 :: t247 :: t248 :: t249 :: t250 :: t251 :: t252 :: t253 :: t254 :: t255 :: t256 :: t257 :: t258 :: t259 :: t260 :: []).toArray, []⟩ wr := by
  conv => arg 2; whnf
  go_loopw [20] (fun i w6 => ∃ k : Nat, k ≤ 8 ∧ i = .int .i64 (k : Int) ∧ Blk w6 g 59 ((addL s.words q.words k).map U32) ∧ wr.grownBy w6 (some g)) (fun i _ => 8 - (intOf i).toNat)
  case atStart => exact ⟨0, by omega, rfl, hs, grown_refl _ _⟩
  case round =>
    clear hs
    obtain ⟨k, hk, rfl, hs, hb⟩ := hrel
    by_cases hlt : k < 8
    · have hd : decide ((k : Int) < 8) = true := by simp; omega
      have hsl : (addL s.words q.words k).length = 8 := (addL_length _ _ _).trans rfl
      have c0 := hs.at32 k (by omega)
      rw [addL_ge s.words q.words k k (Nat.le_refl _)] at c0
      have cf := hs.frozen k
      have c1 := (hq.grown hb (by simpa using hne)).at32 k (by show k < 8; omega)
      obtain ⟨x, hx⟩ : ∃ x, x = s.words.getD k 0 := ⟨_, rfl⟩
      obtain ⟨y, hy⟩ : ∃ y, y = q.words.getD k 0 := ⟨_, rfl⟩
      rw [← hx] at c0
      rw [← hy] at c1
      have HX := Lib.hid hx
      have HY := Lib.hid hy
      clear hsl hx hy
      go_wp2
      refine reg33 g g' k _ _ _ _ hlt c0 cf c1 ?_
      intros
      rename_i nq _ _ _ _ _ _ _ _ _
      go_wp2
      go_roundw
      case rel =>
        refine ⟨k + 1, by omega, by go_num, ?_, grown_setCell (grown_drewN hb nq) (.inl rfl) _⟩
        rw [addL, ← HX.out, ← HY.out, ← map_set32]
        exact (hs.drewN nq).set_ k _
      case measure => simp [intOf]; omega
    · have hd : decide ((k : Int) < 8) = false := by simp; omega
      obtain rfl : k = 8 := by omega
      rw [addL_all] at hs
      go_wp2
      exact h _ _ _ _ _ _ _ _ _ _ _ _ _ _ _ hs hb

end Go.Proofs.YtdjhempfpgcigaaDoor
