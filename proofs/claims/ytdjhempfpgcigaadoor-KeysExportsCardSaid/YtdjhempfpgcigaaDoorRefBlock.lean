/-
  The contracts of the loops within one block of the document's Sum, each by itself, over a frame of letters.
-/
import Derived.Test.YtdjhempfpgcigaaDoorRefLoops
namespace Go.Proofs.YtdjhempfpgcigaaDoor
open Go.RowKit Go.BigFrame

noncomputable def blockLoopCode : Code := ((Tryd.f35.body.bind (loopOf 11)).getD .skip)
set_option maxRecDepth 1000000 in
set_option maxHeartbeats 4000000 in
theorem blockLoop {t0 t1 t2 t6 t7 t9 t10 t11 t12 t13 t14 t15 t16 t17 t18 t19 t20 t21 t22 t23 t24 t25 t26 t27 t28 t29 t30 t31 t32 t33 t34 t35 t36 t37 t38 t39 t40 t41 t42 t43 t44 t45 t46 t47 t48 t49 t50 t51 t52 t53 t54 t55 t56 t57 t58 t59 t60 t61 t62 t63 t64 t65 t66 t67 t68 t69 t70 t71 t72 t73 t74 t75 t76 t77 t78 t79 t80 t81 t82 t83 t84 t85 t86 t87 t88 t89 t90 t91 t92 t93 t94 t95 t96 t97 t98 t99 t100 t101 t102 t103 t104 t105 t106 t107 t108 t109 t110 t111 t112 t113 t114 t115 t116 t117 t118 t119 t120 t121 t122 t123 t124 t125 t126 t127 t128 t129 t130 t131 t132 t133 t134 t135 t136 t137 t138 t139 t140 t141 t142 t143 t144 t145 t146 t147 t148 t149 t150 t151 t152 t153 t154 t155 t156 t157 t158 t159 t160 t161 t162 t163 t164 t165 t166 t167 t168 t169 t170 t171 t172 t173 t174 t175 t176 t177 t178 t179 t180 t181 t182 t183 t184 t185 t186 t187 t188 t189 t190 t191 t192 t193 t194 t195 t196 t197 t198 t199 t200 t201 t202 t203 t204 t205 t206 t207 t208 t209 t210 t211 t212 t213 t214 t215 t216 t217 t218 t219 t220 t221 t222 t223 t224 t225 t226 t227 t228 t229 t230 t231 t232 t233 t234 t235 t236 t237 t238 t239 t240 t241 t242 t243 t244 t245 t246 t247 t248 t249 t250 t251 t252 t253 t254 t255 t256 t257 t258 t259 t260 : Value} (G gk gb n c J : Nat) (T : List UInt8) (wr : World) (Q : Exit → Act → World → Prop) (hn : n < 1099511627776) (hJ : Hid (n = 64 * J)) (hT : Hid (T.length = n)) (hby : Bytes wr gb 0 T) (hk : ∀ i, i < 64 → wr.cell? ⟨gk, i, none⟩ = some (.int .u32 (kTab.getD i 0).toNat)) (hs : Blk wr G 59 ((foldB 0 first T).words.map U32)) (hgb : gb < wr.heap.size) (hgk : gk < wr.heap.size) (hne : gb ≠ G) (hne2 : gk ≠ G)
    (h : ∀ (wz : World) (u8 u9 u10 u11 u12 u13 u14 u15 u16 u17 u18 u19 u20 u53 u54 u55 u56 u57 u58 u59 u60 u61 u62 u63 u64 u65 u66 u67 u68 u69 u70 u71 u72 u73 u74 u75 u76 u77 u78 u79 u80 u81 u82 u83 u84 u85 u86 u87 u88 u89 u90 u91 u92 u93 u94 u95 u96 u97 u98 u99 u100 u101 u102 u103 u104 u105 u106 u107 u108 u109 u110 u111 u112 u113 u114 u115 u116 u117 u118 u119 u120 u121 u122 u123 u124 u125 u126 u127 u128 u129 u130 u131 u132 u133 u134 u135 u136 u137 u138 u139 u140 u141 u142 u143 u144 u145 u146 u147 u148 u149 u150 u151 u152 u153 u154 u155 u156 u157 u158 u159 u160 u161 u162 u163 u164 u165 u166 u167 u168 u169 u170 u171 u172 u173 u174 u175 u176 u177 u178 u179 u180 u181 u182 u183 u184 u185 u186 u187 u188 u189 u190 u191 u192 u193 u194 u195 u196 u197 u198 u199 u200 u201 u202 u203 u204 u205 u206 u207 u208 u209 u210 u211 u212 u213 u214 u215 u216 u217 u218 u219 u220 u221 u222 u223 u224 u225 u226 u227 u228 u229 u230 u231 u232 : Value), Blk wz G 59 ((foldB J first T).words.map U32) → wr.grownBy wz (some G) → Q (.exit 4) ⟨(t0 :: t1 :: t2 :: .pointer (some ⟨G, 0, none⟩) :: .pointer (some ⟨gk, 0, none⟩) :: .slice (some ⟨gb, 0, none⟩) n c :: t6 :: t7 :: u8 :: u9 :: u10 :: u11 :: u12 :: u13 :: u14 :: u15 :: u16 :: u17 :: u18 :: u19 :: u20 :: t21 :: t22 :: t23 :: t24 :: t25 :: t26 :: t27 :: t28 :: t29 :: t30 :: t31 :: t32 :: t33 :: t34 :: t35 :: t36 :: t37 :: t38 :: t39 :: t40 :: t41 :: t42 :: t43 :: t44 :: t45 :: t46 :: t47 :: t48 :: t49 :: t50 :: t51 :: t52 :: u53 :: u54 :: u55 :: u56 :: u57 :: u58 :: u59 :: u60 :: u61 :: u62 :: u63 :: u64 :: u65 :: u66 :: u67 :: u68 :: u69 :: u70 :: u71 :: u72 :: u73 :: u74 :: u75 :: u76 :: u77 :: u78 :: u79 :: u80 :: u81 :: u82 :: u83 :: u84 :: u85 :: u86 :: u87 :: u88 :: u89 :: u90 :: u91 :: u92 :: u93 :: u94 :: u95 :: u96 :: u97 :: u98 :: u99 :: u100 :: u101 :: u102 :: u103 :: u104 :: u105 :: u106 :: u107 :: u108 :: u109 :: u110 :: u111 :: u112 :: u113 :: u114 :: u115 :: u116 :: u117 :: u118 :: u119 :: u120 :: u121 :: u122 :: u123 :: u124 :: u125 :: u126 :: u127 :: u128 :: u129 :: u130 :: u131 :: u132 :: u133 :: u134 :: u135 :: u136 :: u137 :: u138 :: u139 :: u140 :: u141 :: u142 :: u143 :: u144 :: u145 :: u146 :: u147 :: u148 :: u149 :: u150 :: u151 :: u152 :: u153 :: u154 :: u155 :: u156 :: u157 :: u158 :: u159 :: u160 :: u161 :: u162 :: u163 :: u164 :: u165 :: u166 :: u167 :: u168 :: u169 :: u170 :: u171 :: u172 :: u173 :: u174 :: u175 :: u176 :: u177 :: u178 :: u179 :: u180 :: u181 :: u182 :: u183 :: u184 :: u185 :: u186 :: u187 :: u188 :: u189 :: u190 :: u191 :: u192 :: u193 :: u194 :: u195 :: u196 :: u197 :: u198 :: u199 :: u200 :: u201 :: u202 :: u203 :: u204 :: u205 :: u206 :: u207 :: u208 :: u209 :: u210 :: u211 :: u212 :: u213 :: u214 :: u215 :: u216 :: u217 :: u218 :: u219 :: u220 :: u221 :: u222 :: u223 :: u224 :: u225 :: u226 :: u227 :: u228 :: u229 :: u230 :: u231 :: u232 :: t233 :: t234 :: t235 :: t236 :: t237 :: t238 :: t239 :: t240 :: t241 :: t242 :: t243 :: t244 :: t245 :: t246 :: t247 :: t248 :: t249 :: t250 :: t251 :: t252 :: t253 :: t254 :: t255 :: t256 :: t257 :: t258 :: t259 :: t260 :: []).toArray, []⟩ wz) :
    blockLoopCode.wp Tryd.prog Q ⟨(t0 :: t1 :: t2 :: .pointer (some ⟨G, 0, none⟩) :: .pointer (some ⟨gk, 0, none⟩) :: .slice (some ⟨gb, 0, none⟩) n c :: t6 :: t7 :: .int .i64 0 :: t9 :: t10 :: t11 :: t12 :: t13 :: t14 :: t15 :: t16 :: t17 :: t18 :: t19 :: t20 :: t21 :: t22 :: t23 :: t24 :: t25 :: t26 :: t27 :: t28 :: t29 :: t30 :: t31 :: t32 :: t33 :: t34 :: t35 :: t36 :: t37 :: t38 :: t39 :: t40 :: t41 :: t42 :: t43 :: t44 :: t45 :: t46 :: t47 :: t48 :: t49 :: t50 :: t51 :: t52 :: t53 :: t54 :: t55 :: t56 :: t57 :: t58 :: t59 :: t60 :: t61 :: t62 :: t63 :: t64 :: t65 :: t66 :: t67 :: t68 :: t69 :: t70 :: t71 :: t72 :: t73 :: t74 :: t75 :: t76 :: t77 :: t78 :: t79 :: t80 :: t81 :: t82 :: t83 :: t84 :: t85 :: t86 :: t87 :: t88 :: t89 :: t90 :: t91 :: t92 :: t93 :: t94 :: t95 :: t96 :: t97 :: t98 :: t99 :: t100 :: t101 :: t102 :: t103 :: t104 :: t105 :: t106 :: t107 :: t108 :: t109 :: t110 :: t111 :: t112 :: t113 :: t114 :: t115 :: t116 :: t117 :: t118 :: t119 :: t120 :: t121 :: t122 :: t123 :: t124 :: t125 :: t126 :: t127 :: t128 :: t129 :: t130 :: t131 :: t132 :: t133 :: t134 :: t135 :: t136 :: t137 :: t138 :: t139 :: t140 :: t141 :: t142 :: t143 :: t144 :: t145 :: t146 :: t147 :: t148 :: t149 :: t150 :: t151 :: t152 :: t153 :: t154 :: t155 :: t156 :: t157 :: t158 :: t159 :: t160 :: t161 :: t162 :: t163 :: t164 :: t165 :: t166 :: t167 :: t168 :: t169 :: t170 :: t171 :: t172 :: t173 :: t174 :: t175 :: t176 :: t177 :: t178 :: t179 :: t180 :: t181 :: t182 :: t183 :: t184 :: t185 :: t186 :: t187 :: t188 :: t189 :: t190 :: t191 :: t192 :: t193 :: t194 :: t195 :: t196 :: t197 :: t198 :: t199 :: t200 :: t201 :: t202 :: t203 :: t204 :: t205 :: t206 :: t207 :: t208 :: t209 :: t210 :: t211 :: t212 :: t213 :: t214 :: t215 :: t216 :: t217 :: t218 :: t219 :: t220 :: t221 :: t222 :: t223 :: t224 :: t225 :: t226 :: t227 :: t228 :: t229 :: t230 :: t231 :: t232 :: t233 :: t234 :: t235 :: t236 :: t237 :: t238 :: t239 :: t240 :: t241 :: t242 :: t243 :: t244 :: t245 :: t246 :: t247 :: t248 :: t249 :: t250 :: t251 :: t252 :: t253 :: t254 :: t255 :: t256 :: t257 :: t258 :: t259 :: t260 :: []).toArray, []⟩ wr := by
  conv => arg 2; whnf
  have hGl := hs.lt
  go_loopw [8] (fun i w6 => ∃ b p : Nat, b ≤ J ∧ Hid (p = 64 * b) ∧ i = .int .i64 (p : Int) ∧ Blk w6 G 59 ((foldB b first T).words.map U32) ∧ wr.grownBy w6 (some G)) (fun i _ => n - (intOf i).toNat)
  case atStart => exact ⟨0, 0, Nat.zero_le _, (show _ = _ from rfl), rfl, hs, grown_refl _ _⟩
  case round =>
    clear hs
    obtain ⟨b, p, hbJ, HP, rfl, hs, hg⟩ := hrel
    have hsz := hg.size
    by_cases hlt : b < J
    · have hpn : p + 64 ≤ n := by have := HP.out; have := hJ.out; omega
      have hpn' : p < n := by omega
      have HBL := Lib.hid (blkAt_length T b (by have := hT.out; have := HP.out; omega))
      have hbyr : Bytes wr gb 0 T := fun j hj => (World.cell?_of_block (a := ⟨gb, 0 + j, none⟩) (hg.block gb hgb (by simpa using hne))).trans (hby j hj)
      have hkr : ∀ i, i < 64 → wr.cell? ⟨gk, i, none⟩ = some (.int .u32 (kTab.getD i 0).toNat) := fun i hi => (World.cell?_of_block (a := ⟨gk, i, none⟩) (hg.block gk hgk (by simpa using hne2))).trans (hk i hi)
      go_wp2
      refine schedLoop gb n c p wr.heap.size wr.heap.size (blkAt T b) _ _ hpn hn (by omega) (Nat.le_refl _) (fun i hi => ?_) (Blk.new_of wr _ _ _ (by rfl)) ?_
      · rw [((Below.refl wr.heap.size wr).alloc (Nat.le_refl _) _).cell (p := ⟨gb, p + i, none⟩) (by show gb < _; omega)]
        exact hbyr.blk b p i HP.out hi (by have := hT.out; omega)
      intro wz4
      intros
      rename_i hW4 hb4
      have hz4 : wr.heap.size < wz4.heap.size := hW4.lt
      have hg4 : wr.grownBy wz4 (some G) := grown_of_below (((Below.refl wr.heap.size wr).alloc (Nat.le_refl _) _).trans hb4) _
      have hs4 := (hs.alloc _).below hb4 (by omega)
      clear hb4 HBL hbyr
      obtain ⟨S, hS⟩ : ∃ S, S = foldB b first T := ⟨_, rfl⟩
      rw [← hS] at hs4
      have HS := Lib.hid hS
      have hGl2 : G < wz4.heap.size := by omega
      have hI8 : (Tryd.prog.info? 59).map (·.size) = some (S.words.map U32).length := info63r
      have HI8 := Lib.hid hI8
      clear hS hI8 hs
      go_wp2_with (first
        | ((with_reducible refine (?_ : wpList _ _ _ (Oper.mk (some 137) _ _ _ _ _ :: _) _ _)); go_loud (refine wpList_load_blk rfl 59 (.tmp 3) rfl G rfl 59 _ _ hs4 Tryd.underlying59 rfl HI8.out ?_))
        | ((with_reducible refine (?_ : wpList _ _ _ (Oper.mk none (.store 59 _ _) _ _ _ _ :: _) _ _)); go_loud (refine wpList_store_blk rfl 59 (.tmp 14) (.tmp 137) rfl rfl wz4.heap.size (S.words.map U32) rfl rfl 59 (List.replicate 8 (.int .u32 0)) (Blk.new_of wz4 _ _ _ (by rfl)) HI8.out (by rfl) (one32 _) ?_); intro w5 hv5 hg5))
      have hs5 := (hs4.alloc _).grown hg5 (by simp; omega)
      have hW5 := (hW4.alloc _).grown hg5 (by simp; omega)
      have hz5 : wz4.heap.size < w5.heap.size := hv5.lt
      have hg6 := grown_new (grown_alloc hg4 _) hg5 (by omega)
      clear hg5 hs4 hW4 hg4 HI8
      refine roundLoop gk wr.heap.size wz4.heap.size wz4.heap.size (schedTo (blkAt T b) 64) S _ _ (by omega) hz4 (Nat.le_refl _) (fun i hi => (World.cell?_of_block (a := ⟨gk, i, none⟩) (hg6.block gk (by omega) (by simpa using hne2))).trans (hkr i hi)) (fun i hi => hW5.at32 i (by rw [schedTo_length]; exact hi)) hv5 (Nat.le_of_lt hz5) ?_
      intro wz6
      intros
      rename_i hv6 hb6
      have hs6 := hs5.below hb6 hGl2
      have hg7 := grown_then_below hg6 hb6 (Nat.le_of_lt hz4)
      have hne3 : wz4.heap.size ≠ G := by omega
      clear hb6 hg6 hs5 hv5 hW5
      go_wp2
      refine addLoop G wz4.heap.size S (rnds (schedTo (blkAt T b) 64) 64 S) _ _ hne3 hs6 hv6 ?_
      intro wz7
      intros
      rename_i hs7 hg8
      have hg9 := grown_trans hg7 hg8
      clear hg7 hg8 hs6 hv6
      go_wp2
      go_roundw
      case rel =>
        refine ⟨b + 1, p + 64, hlt, ?_, by go_num, ?_, grown_trans hg hg9⟩
        · show _ = _
          have := HP.out; omega
        · rw [foldB_succ, ← HS.out]
          exact hs7
      case measure => simp [intOf]; omega
    · have hbe : b = J := by omega
      have hpn' : ¬ p < n := by have := HP.out; have := hJ.out; omega
      rw [hbe] at hs
      go_wp2
      exact h _ _ _ _ _ _ _ _ _ _ _ _ _ _ _ _ _ _ _ _ _ _ _ _ _ _ _ _ _ _ _ _ _ _ _ _ _ _ _ _ _ _ _ _ _ _ _ _ _ _ _ _ _ _ _ _ _ _ _ _ _ _ _ _ _ _ _ _ _ _ _ _ _ _ _ _ _ _ _ _ _ _ _ _ _ _ _ _ _ _ _ _ _ _ _ _ _ _ _ _ _ _ _ _ _ _ _ _ _ _ _ _ _ _ _ _ _ _ _ _ _ _ _ _ _ _ _ _ _ _ _ _ _ _ _ _ _ _ _ _ _ _ _ _ _ _ _ _ _ _ _ _ _ _ _ _ _ _ _ _ _ _ _ _ _ _ _ _ _ _ _ _ _ _ _ _ _ _ _ _ _ _ _ _ _ _ _ _ _ _ _ _ _ _ hs hg

end Go.Proofs.YtdjhempfpgcigaaDoor
