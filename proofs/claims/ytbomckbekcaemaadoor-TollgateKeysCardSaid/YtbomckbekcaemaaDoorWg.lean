/-
  Joined: QRound.
-/
import Derived.Test.YtbomckbekcaemaaDoorWe
import Derived.Test.YtbomckbekcaemaaDoorWb
import Derived.Test.YtbomckbekcaemaaDoorWc
import Derived.Test.YtbomckbekcaemaaDoorWf
import Derived.Test.YtbomckbekcaemaaDoorWa
namespace Go.Proofs.YtbomckbekcaemaaDoor
section
open Go.RowKit Go.BigFrame
/-- The innermost loop that holds the region of that number. -/
def hasQ (id : Nat) : Code → Bool
  | .region i _ _ => i == id
  | .seq a b => hasQ id a || hasQ id b
  | .block _ c => hasQ id c
  | .loop c => hasQ id c
  | .scope c => hasQ id c
  | .cond _ a b => hasQ id a || hasQ id b
  | _ => false
def loopQ (id : Nat) : Code → Option Code
  | .seq a b => match loopQ id a with
    | some c => some c
    | none => loopQ id b
  | .block _ c => loopQ id c
  | .loop c => match loopQ id c with
    | some d => some d
    | none => if hasQ id c then some (.loop c) else none
  | .scope c => loopQ id c
  | .cond _ a b => match loopQ id a with
    | some c => some c
    | none => loopQ id b
  | _ => none
theorem qd_one4 (s : Qd) : s.vals.toArray.all (·.oneCell') = true := by
  rw [Array.all_eq_true_iff_forall_mem]
  intro v hv
  have hv : v ∈ s.vals := by simpa using hv
  simp [Qd.vals] at hv
  rcases hv with rfl | rfl | rfl | rfl <;> rfl
theorem info43 (s : Qd) : (Tryd.prog.info? 120).map (·.size) = some s.vals.length := by kernel_rfl
noncomputable def roundLoopQCode : Code := ((Tryd.f53.body.bind (loopQ 16)).getD .skip)
set_option maxRecDepth 1000000 in
set_option maxHeartbeats 4000000 in
theorem roundLoopQ {t0 t1 t2 t4 t5 t7 t11 t12 t13 t14 t15 t16 t17 t18 t19 t20 t21 t22 t23 t24 t25 t26 t27 t28 t29 t30 t31 t32 t33 t34 t35 t36 t37 t38 t39 t40 t41 t42 t43 t44 t45 t46 t47 t48 t49 t50 t51 t52 t53 t54 t55 t56 t57 t58 t59 t60 t61 t62 t63 t64 t65 t66 t67 t68 t69 t70 t71 t72 t73 t74 t75 t76 t77 t78 t79 t80 t81 t82 t83 t84 t85 t86 t87 t88 t89 t90 t91 t92 t93 t94 t95 t96 t97 t98 t99 t100 t101 t102 t103 t104 t105 t106 t107 t108 t109 t110 t111 t112 t113 t114 t115 t116 t117 t118 t119 t120 t121 t122 t123 t124 t125 t126 t127 t128 t129 t130 t131 t132 t133 t134 t135 t136 t137 t138 t139 t140 t141 t142 t143 t144 t145 t146 t147 t148 t149 t150 t151 t152 t153 t154 t155 t156 t157 t158 t159 t160 t161 t162 t163 t164 t165 t166 t167 t168 t169 t170 t171 t172 t173 t174 t175 t176 t177 t178 t179 t180 t181 t182 t183 t184 t185 t186 t187 t188 t189 t190 t191 t192 t193 t194 t195 t196 t197 t198 t199 t200 t201 t202 t203 t204 t205 t206 t207 t208 t209 t210 t211 t212 t213 t214 t215 t216 t217 t218 t219 t220 t221 t222 t223 t224 t225 : Value} (gb n c p gk g D : Nat) (bs : List UInt8) (s : Qd) (ws : World) (Q : Exit → Act → World → Prop) (hp : p + 64 ≤ n) (hn : n < 1099511627776) (hgb : gb < D) (hgk : gk < D) (hD : D ≤ g) (hby : ∀ i, i < 64 → ws.cell? ⟨gb, p + i, none⟩ = some (.int .u8 (bs.getD i 0).toNat)) (hk : ∀ i, i < 64 → ws.cell? ⟨gk, i, none⟩ = some (.int .u32 (sineTab.getD i 0).toNat)) (hs : Blk ws g 120 s.vals) (hsz : D ≤ ws.heap.size)
    (h : ∀ (wz : World) (u10 u11 u12 u13 u14 u15 u54 u55 u56 u57 u58 u59 u60 u61 u62 u63 u64 u65 u66 u67 u68 u69 u70 u71 u72 u73 u74 u75 u76 u77 u78 u79 u80 u81 u82 u83 u84 u85 u86 u87 u88 u89 u90 u91 u92 u93 u94 u95 u96 u97 u98 u99 u100 u101 u102 u103 u104 u105 u106 u107 u108 u109 u110 u111 u112 u113 u114 u115 u116 u117 u118 u119 u120 u121 u122 u123 u124 u125 u126 u127 u128 u129 u130 u131 u132 u133 u134 u135 u136 u137 u138 u139 u140 u141 u142 u143 u144 u145 u146 u147 u148 u149 u150 u151 u152 u153 u154 u155 u156 u157 u158 u159 u160 u161 u162 u163 u164 u165 u166 u167 u168 u169 u170 u171 u172 u173 u174 u175 u176 u177 u178 u179 u180 u181 u182 u183 u184 : Value), Blk wz g 120 (stepsQ bs 64 s).vals → Below D ws wz → Q (.exit 6) ⟨(t0 :: t1 :: t2 :: .slice (some ⟨gb, 0, none⟩) n c :: t4 :: t5 :: .pointer (some ⟨gk, 0, none⟩) :: t7 :: .int .i64 (p : Int) :: .pointer (some ⟨g, 0, none⟩) :: u10 :: u11 :: u12 :: u13 :: u14 :: u15 :: t16 :: t17 :: t18 :: t19 :: t20 :: t21 :: t22 :: t23 :: t24 :: t25 :: t26 :: t27 :: t28 :: t29 :: t30 :: t31 :: t32 :: t33 :: t34 :: t35 :: t36 :: t37 :: t38 :: t39 :: t40 :: t41 :: t42 :: t43 :: t44 :: t45 :: t46 :: t47 :: t48 :: t49 :: t50 :: t51 :: t52 :: t53 :: u54 :: u55 :: u56 :: u57 :: u58 :: u59 :: u60 :: u61 :: u62 :: u63 :: u64 :: u65 :: u66 :: u67 :: u68 :: u69 :: u70 :: u71 :: u72 :: u73 :: u74 :: u75 :: u76 :: u77 :: u78 :: u79 :: u80 :: u81 :: u82 :: u83 :: u84 :: u85 :: u86 :: u87 :: u88 :: u89 :: u90 :: u91 :: u92 :: u93 :: u94 :: u95 :: u96 :: u97 :: u98 :: u99 :: u100 :: u101 :: u102 :: u103 :: u104 :: u105 :: u106 :: u107 :: u108 :: u109 :: u110 :: u111 :: u112 :: u113 :: u114 :: u115 :: u116 :: u117 :: u118 :: u119 :: u120 :: u121 :: u122 :: u123 :: u124 :: u125 :: u126 :: u127 :: u128 :: u129 :: u130 :: u131 :: u132 :: u133 :: u134 :: u135 :: u136 :: u137 :: u138 :: u139 :: u140 :: u141 :: u142 :: u143 :: u144 :: u145 :: u146 :: u147 :: u148 :: u149 :: u150 :: u151 :: u152 :: u153 :: u154 :: u155 :: u156 :: u157 :: u158 :: u159 :: u160 :: u161 :: u162 :: u163 :: u164 :: u165 :: u166 :: u167 :: u168 :: u169 :: u170 :: u171 :: u172 :: u173 :: u174 :: u175 :: u176 :: u177 :: u178 :: u179 :: u180 :: u181 :: u182 :: u183 :: u184 :: t185 :: t186 :: t187 :: t188 :: t189 :: t190 :: t191 :: t192 :: t193 :: t194 :: t195 :: t196 :: t197 :: t198 :: t199 :: t200 :: t201 :: t202 :: t203 :: t204 :: t205 :: t206 :: t207 :: t208 :: t209 :: t210 :: t211 :: t212 :: t213 :: t214 :: t215 :: t216 :: t217 :: t218 :: t219 :: t220 :: t221 :: t222 :: t223 :: t224 :: t225 :: []).toArray, []⟩ wz) :
    roundLoopQCode.wp Tryd.prog Q ⟨(t0 :: t1 :: t2 :: .slice (some ⟨gb, 0, none⟩) n c :: t4 :: t5 :: .pointer (some ⟨gk, 0, none⟩) :: t7 :: .int .i64 (p : Int) :: .pointer (some ⟨g, 0, none⟩) :: .int .i64 0 :: t11 :: t12 :: t13 :: t14 :: t15 :: t16 :: t17 :: t18 :: t19 :: t20 :: t21 :: t22 :: t23 :: t24 :: t25 :: t26 :: t27 :: t28 :: t29 :: t30 :: t31 :: t32 :: t33 :: t34 :: t35 :: t36 :: t37 :: t38 :: t39 :: t40 :: t41 :: t42 :: t43 :: t44 :: t45 :: t46 :: t47 :: t48 :: t49 :: t50 :: t51 :: t52 :: t53 :: t54 :: t55 :: t56 :: t57 :: t58 :: t59 :: t60 :: t61 :: t62 :: t63 :: t64 :: t65 :: t66 :: t67 :: t68 :: t69 :: t70 :: t71 :: t72 :: t73 :: t74 :: t75 :: t76 :: t77 :: t78 :: t79 :: t80 :: t81 :: t82 :: t83 :: t84 :: t85 :: t86 :: t87 :: t88 :: t89 :: t90 :: t91 :: t92 :: t93 :: t94 :: t95 :: t96 :: t97 :: t98 :: t99 :: t100 :: t101 :: t102 :: t103 :: t104 :: t105 :: t106 :: t107 :: t108 :: t109 :: t110 :: t111 :: t112 :: t113 :: t114 :: t115 :: t116 :: t117 :: t118 :: t119 :: t120 :: t121 :: t122 :: t123 :: t124 :: t125 :: t126 :: t127 :: t128 :: t129 :: t130 :: t131 :: t132 :: t133 :: t134 :: t135 :: t136 :: t137 :: t138 :: t139 :: t140 :: t141 :: t142 :: t143 :: t144 :: t145 :: t146 :: t147 :: t148 :: t149 :: t150 :: t151 :: t152 :: t153 :: t154 :: t155 :: t156 :: t157 :: t158 :: t159 :: t160 :: t161 :: t162 :: t163 :: t164 :: t165 :: t166 :: t167 :: t168 :: t169 :: t170 :: t171 :: t172 :: t173 :: t174 :: t175 :: t176 :: t177 :: t178 :: t179 :: t180 :: t181 :: t182 :: t183 :: t184 :: t185 :: t186 :: t187 :: t188 :: t189 :: t190 :: t191 :: t192 :: t193 :: t194 :: t195 :: t196 :: t197 :: t198 :: t199 :: t200 :: t201 :: t202 :: t203 :: t204 :: t205 :: t206 :: t207 :: t208 :: t209 :: t210 :: t211 :: t212 :: t213 :: t214 :: t215 :: t216 :: t217 :: t218 :: t219 :: t220 :: t221 :: t222 :: t223 :: t224 :: t225 :: []).toArray, []⟩ ws := by
  conv => arg 2; whnf
  go_loopw [10] (fun i w6 => ∃ (k : Nat) (q : Qd), k ≤ 64 ∧ i = .int .i64 (k : Int) ∧ Hid (q = stepsQ bs k s) ∧ Blk w6 g 120 q.vals ∧ Below D ws w6) (fun i _ => 64 - (intOf i).toNat)
  case atStart => exact ⟨0, s, by omega, rfl, (show _ = _ from rfl), hs, Below.refl _ _⟩
  case round =>
    clear hs
    obtain ⟨k, q, hk64, rfl, HQ, hs, hbd⟩ := hrel
    by_cases hlt : k < 64
    · have hd : decide ((k : Int) < 64) = true := by simp; omega
      have hsz2 : D ≤ wr.heap.size := Nat.le_trans hsz hbd.size
      have hgl := hs.lt
      have hTU := fun W => turns_any k W hlt
      have hsh : 0 < shiftOf k ∧ shiftOf k < 32 := by have := shift_range ⟨k / 16 * 4 + k % 4, by omega⟩; exact ⟨this.1, this.2.1⟩
      have hat := atOf_lt k hlt
      have hkk := hk k hlt
      obtain ⟨x, hx⟩ : ∃ x, x = p + 4 * atOf k := ⟨_, rfl⟩
      have b3 : x + 3 < n := by omega
      have b0 : x < n := by omega
      have b1 : x + 1 < n := by omega
      have b2 : x + 2 < n := by omega
      have hX := fun (V : World) (h : Below wr.heap.size wr V) => (show V.cell? ⟨gb, x, none⟩ = some (.int .u8 (bs.getD (4 * atOf k) 0).toNat) ∧ V.cell? ⟨gb, x + 1, none⟩ = some (.int .u8 (bs.getD (4 * atOf k + 1) 0).toNat) ∧ V.cell? ⟨gb, x + 2, none⟩ = some (.int .u8 (bs.getD (4 * atOf k + 2) 0).toNat) ∧ V.cell? ⟨gb, x + 3, none⟩ = some (.int .u8 (bs.getD (4 * atOf k + 3) 0).toNat) from by
        have hc := fun i (hi : i < 64) => ((hbd.trans (h.mono hsz2)).cell (p := ⟨gb, p + i, none⟩) hgb).trans (hby i hi)
        rw [hx]
        exact ⟨hc _ (by omega), hc (4 * atOf k + 1) (by omega), hc (4 * atOf k + 2) (by omega), hc (4 * atOf k + 3) (by omega)⟩)
      have hle : leWord bs (atOf k) = ((bs.getD (4 * atOf k) 0).toUInt32 ||| ((bs.getD (4 * atOf k + 1) 0).toUInt32 <<< 8) ||| ((bs.getD (4 * atOf k + 2) 0).toUInt32 <<< 16) ||| ((bs.getD (4 * atOf k + 3) 0).toUInt32 <<< 24)) := rfl
      have HS : Hid (stepsQ bs (k + 1) s = ⟨q.d, q.b + rotl (shiftOf k) (q.a + mixOf k q.b q.c q.d + sineTab.getD k 0 + leWord bs (atOf k)), q.b, q.c⟩) := Lib.hid (by
        show stepQ bs k (stepsQ bs k s) = _
        rw [← HQ.out]; rfl)
      clear hby hk HQ
      generalize bs.getD (4 * atOf k) 0 = y0 at *
      generalize bs.getD (4 * atOf k + 1) 0 = y1 at *
      generalize bs.getD (4 * atOf k + 2) 0 = y2 at *
      generalize bs.getD (4 * atOf k + 3) 0 = y3 at *
      generalize shiftOf k = sh at *
      generalize sineTab.getD k 0 = sn at *
      have c0 : World.cell? _ ⟨g, 0, none⟩ = some (.int .u32 q.a.toNat) := hs.cell 0
      have c1 : World.cell? _ ⟨g, 1, none⟩ = some (.int .u32 q.b.toNat) := hs.cell 1
      have c2 : World.cell? _ ⟨g, 2, none⟩ = some (.int .u32 q.c.toNat) := hs.cell 2
      have c3 : World.cell? _ ⟨g, 3, none⟩ = some (.int .u32 q.d.toNat) := hs.cell 3
      have k0 : (0 : Int) ≤ (k : Int) := by omega
      have k1 : (k : Int) < 64 := by omega
      by_cases hc0 : k < 16
      · skip
        have hmx : mixOf k q.b q.c q.d = (q.b &&& q.c) ||| (~~~q.b &&& q.d) := by unfold mixOf; rw [if_pos hc0]
        have ha : atOf k = k := by unfold atOf; rw [if_pos hc0]
        have e0 : ((k : Int) / 16 == 0) = true := by simp; omega
        have hxi : (p : Int) + 4 * (k : Int) = (x : Int) := by omega
        obtain ⟨z0, hz0⟩ : ∃ z, z = q.b &&& q.c := ⟨_, rfl⟩
        have fz0 : bits .and .u32 (q.b.toNat : Int) (q.c.toNat : Int) = (z0.toNat : Int) := by rw [hz0]; exact w_and _ _
        obtain ⟨z1, hz1⟩ : ∃ z, z = ~~~q.b := ⟨_, rfl⟩
        have fz1 : bits .xor .u32 IntKind.u32.max (q.b.toNat : Int) = (z1.toNat : Int) := by rw [hz1]; exact w_not _
        obtain ⟨z2, hz2⟩ : ∃ z, z = z1 &&& q.d := ⟨_, rfl⟩
        have fz2 : bits .and .u32 (z1.toNat : Int) (q.d.toNat : Int) = (z2.toNat : Int) := by rw [hz2]; exact w_and _ _
        have fl : bits .or .u32 (z0.toNat : Int) (z2.toNat : Int) = ((mixOf k q.b q.c q.d).toNat : Int) := by rw [w_or, hmx, hz2, hz1, hz0]
        clear hmx ha hx hat hz0 hz1 hz2
        generalize mixOf k q.b q.c q.d = mx at *
        go_wp2
        clear fz0 fz1 fz2 fl hxi e0 c0 c1 c2 c3
        obtain ⟨Y0, hY0⟩ : ∃ z, z = y0.toUInt32 := ⟨_, rfl⟩
        have u0 : IntKind.u32.wrap (y0.toNat : Int) = (Y0.toNat : Int) := by rw [hY0, ← u8_mod, IntKind.wrap_u32]
        obtain ⟨Y1, hY1⟩ : ∃ z, z = y1.toUInt32 := ⟨_, rfl⟩
        have u1 : IntKind.u32.wrap (y1.toNat : Int) = (Y1.toNat : Int) := by rw [hY1, ← u8_mod, IntKind.wrap_u32]
        obtain ⟨Y2, hY2⟩ : ∃ z, z = y2.toUInt32 := ⟨_, rfl⟩
        have u2 : IntKind.u32.wrap (y2.toNat : Int) = (Y2.toNat : Int) := by rw [hY2, ← u8_mod, IntKind.wrap_u32]
        obtain ⟨Y3, hY3⟩ : ∃ z, z = y3.toUInt32 := ⟨_, rfl⟩
        have u3 : IntKind.u32.wrap (y3.toNat : Int) = (Y3.toNat : Int) := by rw [hY3, ← u8_mod, IntKind.wrap_u32]
        obtain ⟨S1, hS1⟩ : ∃ z, z = Y1 <<< 8 := ⟨_, rfl⟩
        have g1 : IntKind.u32.wrap ((Y1.toNat : Int) * 256) = (S1.toNat : Int) := by rw [hS1, ← w_shl8, IntKind.wrap_u32]
        obtain ⟨S2, hS2⟩ : ∃ z, z = Y2 <<< 16 := ⟨_, rfl⟩
        have g2 : IntKind.u32.wrap ((Y2.toNat : Int) * 65536) = (S2.toNat : Int) := by rw [hS2, ← w_shl16, IntKind.wrap_u32]
        obtain ⟨S3, hS3⟩ : ∃ z, z = Y3 <<< 24 := ⟨_, rfl⟩
        have g3 : IntKind.u32.wrap ((Y3.toNat : Int) * 16777216) = (S3.toNat : Int) := by rw [hS3, ← w_shl24, IntKind.wrap_u32]
        obtain ⟨R1, hR1⟩ : ∃ z, z = Y0 ||| S1 := ⟨_, rfl⟩
        have r1 : bits .or .u32 (Y0.toNat : Int) (S1.toNat : Int) = (R1.toNat : Int) := by rw [hR1]; exact w_or _ _
        obtain ⟨R2, hR2⟩ : ∃ z, z = R1 ||| S2 := ⟨_, rfl⟩
        have r2 : bits .or .u32 (R1.toNat : Int) (S2.toNat : Int) = (R2.toNat : Int) := by rw [hR2]; exact w_or _ _
        have r3 : bits .or .u32 (R2.toNat : Int) (S3.toNat : Int) = ((leWord bs (atOf k)).toNat : Int) := by rw [hle, w_or R2 S3, hR2, hR1, hS1, hS2, hS3, hY0, hY1, hY2, hY3]
        clear hle hY0 hY1 hY2 hY3 hS1 hS2 hS3 hR1 hR2
        obtain ⟨A1, hA1⟩ : ∃ z, z = q.a + mx := ⟨_, rfl⟩
        obtain ⟨A2, hA2⟩ : ∃ z, z = A1 + sn := ⟨_, rfl⟩
        have q1 : ((q.a.toNat : Int) + (mx.toNat : Int)) % 4294967296 = (A1.toNat : Int) := by rw [hA1]; exact w_add _ _
        have q2 : ((A1.toNat : Int) + (sn.toNat : Int)) % 4294967296 = (A2.toNat : Int) := by rw [hA2]; exact w_add _ _
        have q1' : IntKind.u32.wrap ((q.a.toNat : Int) + (mx.toNat : Int)) = (A1.toNat : Int) := by rw [IntKind.wrap_u32]; exact q1
        have q2' : IntKind.u32.wrap ((A1.toNat : Int) + (sn.toNat : Int)) = (A2.toNat : Int) := by rw [IntKind.wrap_u32]; exact q2
        rw [← hA1, ← hA2] at HS
        clear hA1 hA2
        have x0 : (0 : Int) ≤ (x : Int) := by omega
        have x1 : (x : Int) < 1099511627773 := by omega
        have i1 : (x : Int) + 1 < (n : Int) := by omega
        have v1 : IntKind.i64.wrap ((x : Int) + 1) = (x : Int) + 1 := by rw [IntKind.wrap_i64]; omega
        have o1 : (0 : Int) ≤ (x : Int) + 1 := by omega
        have n1 : ((x : Int) + 1).toNat = x + 1 := by omega
        have i2 : (x : Int) + 2 < (n : Int) := by omega
        have v2 : IntKind.i64.wrap ((x : Int) + 2) = (x : Int) + 2 := by rw [IntKind.wrap_i64]; omega
        have o2 : (0 : Int) ≤ (x : Int) + 2 := by omega
        have n2 : ((x : Int) + 2).toNat = x + 2 := by omega
        have i3 : (x : Int) + 3 < (n : Int) := by omega
        have v3 : IntKind.i64.wrap ((x : Int) + 3) = (x : Int) + 3 := by rw [IntKind.wrap_i64]; omega
        have o3 : (0 : Int) ≤ (x : Int) + 3 := by omega
        have n3 : ((x : Int) + 3).toNat = x + 3 := by omega
        apply wp_region_once (D := [[], [], [0, 1], [0, 1, 2], [0, 1, 2, 3], [], [], [6], [5, 6, 7], [5, 6, 7, 8], [5, 6, 7, 8, 9], [5, 6, 7, 8, 9, 10], [0, 1, 2, 3, 4, 5, 6, 7, 8, 9, 10, 11], [], [], [14], [13, 14, 15], [13, 14, 15, 16], [13, 14, 15, 16, 17], [13, 14, 15, 16, 17, 18], [0, 1, 2, 3, 4, 5, 6, 7, 8, 9, 10, 11, 12, 13, 14, 15, 16, 17, 18, 19], [], [], [22], [21, 22, 23], [21, 22, 23, 24], [21, 22, 23, 24, 25], [21, 22, 23, 24, 25, 26], [0, 1, 2, 3, 4, 5, 6, 7, 8, 9, 10, 11, 12, 13, 14, 15, 16, 17, 18, 19, 20, 21, 22, 23, 24, 25, 26, 27], [0, 1, 2, 3, 4, 5, 6, 7, 8, 9, 10, 11, 12, 13, 14, 15, 16, 17, 18, 19, 20, 21, 22, 23, 24, 25, 26, 27, 28]]) (J := [[], [], [0, 1], [2], [3], [], [], [6], [5, 7], [8], [9], [10], [4, 11], [], [], [14], [13, 15], [16], [17], [18], [12, 19], [], [], [22], [21, 23], [24], [25], [26], [20, 27], [28]]) (Je := [29]) (Rs := [Is _, Is _, Is _, Is _, Is _, Is _, Is _, Is _, Is _, Is _, Is _, Is _, Is _, Is _, Is _, Is _, Is _, Is _, Is _, Is _, Is _, Is _, Is _, Is _, Is _, Is _, Is _, Is _, Is _, Is _])
        · kernel_rfl
        · kernel_rfl
        · kernel_rfl
        · kernel_rfl
        · kernel_rfl
        · kernel_rfl
        · intro u
          simp only [List.map_cons, List.map_nil, fillU, List.setIfInBounds_toArray, List.set_cons_zero, List.set_cons_succ, Nat.zero_add, Nat.reduceAdd]
          exact rfl
        · skip
          refine ⟨fun u W hb hd K hK => ?_, ?_⟩
          · clear hd
            go_simp
            apply hK
            · simp only [Act.put, List.setIfInBounds_toArray, List.set_cons_zero, List.set_cons_succ]
              exact rfl
            · exact Below.refl _ _
            · exact IsOut
          refine ⟨fun u W hb hd K hK => ?_, ?_⟩
          · clear hd
            go_simp
            apply hK
            · simp only [Act.put, List.setIfInBounds_toArray, List.set_cons_zero, List.set_cons_succ]
              exact rfl
            · exact Below.refl _ _
            · exact IsOut
          refine ⟨fun u W hb hd K hK => ?_, ?_⟩
          · simp only [Facts, nthR, Is, and_true] at hd
            simp only [hd] at hK ⊢
            clear hd
            go_simp
            apply hK
            · simp only [Act.put, List.setIfInBounds_toArray, List.set_cons_zero, List.set_cons_succ]
              exact rfl
            · exact Below.refl _ _
            · exact IsOut
          refine ⟨fun u W hb hd K hK => ?_, ?_⟩
          · simp only [Facts, nthR, Is, and_true] at hd
            simp only [hd] at hK ⊢
            clear hd
            go_simp
            apply hK
            · simp only [Act.put, List.setIfInBounds_toArray, List.set_cons_zero, List.set_cons_succ]
              exact rfl
            · exact Below.refl _ _
            · exact IsOut
          refine ⟨fun u W hb hd K hK => ?_, ?_⟩
          · simp only [Facts, nthR, Is, and_true] at hd
            simp only [hd] at hK ⊢
            clear hd
            go_simp
            apply hK
            · simp only [Act.put, List.setIfInBounds_toArray, List.set_cons_zero, List.set_cons_succ]
              exact rfl
            · exact Below.refl _ _
            · exact IsOut
          refine ⟨fun u W hb hd K hK => ?_, ?_⟩
          · clear hd
            go_simp
            apply hK
            · simp only [Act.put, List.setIfInBounds_toArray, List.set_cons_zero, List.set_cons_succ]
              exact rfl
            · exact Below.refl _ _
            · exact IsOut
          refine ⟨fun u W hb hd K hK => ?_, ?_⟩
          · clear hd
            go_simp
            apply hK
            · simp only [Act.put, List.setIfInBounds_toArray, List.set_cons_zero, List.set_cons_succ]
              exact rfl
            · exact Below.refl _ _
            · exact IsOut
          refine ⟨fun u W hb hd K hK => ?_, ?_⟩
          · simp only [Facts, nthR, Is, and_true] at hd
            simp only [hd] at hK ⊢
            clear hd
            go_simp
            apply hK
            · simp only [Act.put, List.setIfInBounds_toArray, List.set_cons_zero, List.set_cons_succ]
              exact rfl
            · exact Below.refl _ _
            · exact IsOut
          refine ⟨fun u W hb hd K hK => ?_, ?_⟩
          · simp only [Facts, nthR, Is, and_true] at hd
            simp only [hd] at hK ⊢
            clear hd
            go_simp
            apply hK
            · simp only [Act.put, List.setIfInBounds_toArray, List.set_cons_zero, List.set_cons_succ]
              exact rfl
            · exact Below.refl _ _
            · exact IsOut
          refine ⟨fun u W hb hd K hK => ?_, ?_⟩
          · simp only [Facts, nthR, Is, and_true] at hd
            simp only [hd] at hK ⊢
            clear hd
            go_simp
            apply hK
            · simp only [Act.put, List.setIfInBounds_toArray, List.set_cons_zero, List.set_cons_succ]
              exact rfl
            · exact Below.refl _ _
            · exact IsOut
          refine ⟨fun u W hb hd K hK => ?_, ?_⟩
          · simp only [Facts, nthR, Is, and_true] at hd
            simp only [hd] at hK ⊢
            clear hd
            go_simp
            apply hK
            · simp only [Act.put, List.setIfInBounds_toArray, List.set_cons_zero, List.set_cons_succ]
              exact rfl
            · exact Below.refl _ _
            · exact IsOut
          refine ⟨fun u W hb hd K hK => ?_, ?_⟩
          · simp only [Facts, nthR, Is, and_true] at hd
            simp only [hd] at hK ⊢
            clear hd
            go_simp
            apply hK
            · simp only [Act.put, List.setIfInBounds_toArray, List.set_cons_zero, List.set_cons_succ]
              exact rfl
            · exact Below.refl _ _
            · exact IsOut
          refine ⟨fun u W hb hd K hK => ?_, ?_⟩
          · simp only [Facts, nthR, Is, and_true] at hd
            simp only [hd] at hK ⊢
            clear hd
            go_simp
            apply hK
            · simp only [Act.put, List.setIfInBounds_toArray, List.set_cons_zero, List.set_cons_succ]
              exact rfl
            · exact Below.refl _ _
            · exact IsOut
          refine ⟨fun u W hb hd K hK => ?_, ?_⟩
          · clear hd
            go_simp
            apply hK
            · simp only [Act.put, List.setIfInBounds_toArray, List.set_cons_zero, List.set_cons_succ]
              exact rfl
            · exact Below.refl _ _
            · exact IsOut
          refine ⟨fun u W hb hd K hK => ?_, ?_⟩
          · clear hd
            go_simp
            apply hK
            · simp only [Act.put, List.setIfInBounds_toArray, List.set_cons_zero, List.set_cons_succ]
              exact rfl
            · exact Below.refl _ _
            · exact IsOut
          refine ⟨fun u W hb hd K hK => ?_, ?_⟩
          · simp only [Facts, nthR, Is, and_true] at hd
            simp only [hd] at hK ⊢
            clear hd
            go_simp
            apply hK
            · simp only [Act.put, List.setIfInBounds_toArray, List.set_cons_zero, List.set_cons_succ]
              exact rfl
            · exact Below.refl _ _
            · exact IsOut
          refine ⟨fun u W hb hd K hK => ?_, ?_⟩
          · simp only [Facts, nthR, Is, and_true] at hd
            simp only [hd] at hK ⊢
            clear hd
            go_simp
            apply hK
            · simp only [Act.put, List.setIfInBounds_toArray, List.set_cons_zero, List.set_cons_succ]
              exact rfl
            · exact Below.refl _ _
            · exact IsOut
          refine ⟨fun u W hb hd K hK => ?_, ?_⟩
          · simp only [Facts, nthR, Is, and_true] at hd
            simp only [hd] at hK ⊢
            clear hd
            go_simp
            apply hK
            · simp only [Act.put, List.setIfInBounds_toArray, List.set_cons_zero, List.set_cons_succ]
              exact rfl
            · exact Below.refl _ _
            · exact IsOut
          refine ⟨fun u W hb hd K hK => ?_, ?_⟩
          · simp only [Facts, nthR, Is, and_true] at hd
            simp only [hd] at hK ⊢
            clear hd
            go_simp
            apply hK
            · simp only [Act.put, List.setIfInBounds_toArray, List.set_cons_zero, List.set_cons_succ]
              exact rfl
            · exact Below.refl _ _
            · exact IsOut
          refine ⟨fun u W hb hd K hK => ?_, ?_⟩
          · simp only [Facts, nthR, Is, and_true] at hd
            simp only [hd] at hK ⊢
            clear hd
            go_simp
            apply hK
            · simp only [Act.put, List.setIfInBounds_toArray, List.set_cons_zero, List.set_cons_succ]
              exact rfl
            · exact Below.refl _ _
            · exact IsOut
          refine ⟨fun u W hb hd K hK => ?_, ?_⟩
          · simp only [Facts, nthR, Is, and_true] at hd
            simp only [hd] at hK ⊢
            clear hd
            go_simp
            apply hK
            · simp only [Act.put, List.setIfInBounds_toArray, List.set_cons_zero, List.set_cons_succ]
              exact rfl
            · exact Below.refl _ _
            · exact IsOut
          refine ⟨fun u W hb hd K hK => ?_, ?_⟩
          · clear hd
            go_simp
            apply hK
            · simp only [Act.put, List.setIfInBounds_toArray, List.set_cons_zero, List.set_cons_succ]
              exact rfl
            · exact Below.refl _ _
            · exact IsOut
          refine ⟨fun u W hb hd K hK => ?_, ?_⟩
          · clear hd
            go_simp
            apply hK
            · simp only [Act.put, List.setIfInBounds_toArray, List.set_cons_zero, List.set_cons_succ]
              exact rfl
            · exact Below.refl _ _
            · exact IsOut
          refine ⟨fun u W hb hd K hK => ?_, ?_⟩
          · simp only [Facts, nthR, Is, and_true] at hd
            simp only [hd] at hK ⊢
            clear hd
            go_simp
            apply hK
            · simp only [Act.put, List.setIfInBounds_toArray, List.set_cons_zero, List.set_cons_succ]
              exact rfl
            · exact Below.refl _ _
            · exact IsOut
          refine ⟨fun u W hb hd K hK => ?_, ?_⟩
          · simp only [Facts, nthR, Is, and_true] at hd
            simp only [hd] at hK ⊢
            clear hd
            go_simp
            apply hK
            · simp only [Act.put, List.setIfInBounds_toArray, List.set_cons_zero, List.set_cons_succ]
              exact rfl
            · exact Below.refl _ _
            · exact IsOut
          refine ⟨fun u W hb hd K hK => ?_, ?_⟩
          · simp only [Facts, nthR, Is, and_true] at hd
            simp only [hd] at hK ⊢
            clear hd
            go_simp
            apply hK
            · simp only [Act.put, List.setIfInBounds_toArray, List.set_cons_zero, List.set_cons_succ]
              exact rfl
            · exact Below.refl _ _
            · exact IsOut
          refine ⟨fun u W hb hd K hK => ?_, ?_⟩
          · simp only [Facts, nthR, Is, and_true] at hd
            simp only [hd] at hK ⊢
            clear hd
            go_simp
            apply hK
            · simp only [Act.put, List.setIfInBounds_toArray, List.set_cons_zero, List.set_cons_succ]
              exact rfl
            · exact Below.refl _ _
            · exact IsOut
          refine ⟨fun u W hb hd K hK => ?_, ?_⟩
          · simp only [Facts, nthR, Is, and_true] at hd
            simp only [hd] at hK ⊢
            clear hd
            go_simp
            apply hK
            · simp only [Act.put, List.setIfInBounds_toArray, List.set_cons_zero, List.set_cons_succ]
              exact rfl
            · exact Below.refl _ _
            · exact IsOut
          refine ⟨fun u W hb hd K hK => ?_, ?_⟩
          · simp only [Facts, nthR, Is, and_true] at hd
            simp only [hd] at hK ⊢
            clear hd
            go_simp
            apply hK
            · simp only [Act.put, List.setIfInBounds_toArray, List.set_cons_zero, List.set_cons_succ]
              exact rfl
            · exact Below.refl _ _
            · exact IsOut
          refine ⟨fun u W hb hd K hK => ?_, ?_⟩
          · simp only [Facts, nthR, Is, and_true] at hd
            simp only [hd] at hK ⊢
            clear hd
            go_simp
            apply hK
            · simp only [Act.put, List.setIfInBounds_toArray, List.set_cons_zero, List.set_cons_succ]
              exact rfl
            · exact Below.refl _ _
            · exact IsOut
          exact trivial
        · exact (.is (.is (.is (.is (.is (.is (.is (.is (.is (.is (.is (.is (.is (.is (.is (.is (.is (.is (.is (.is (.is (.is (.is (.is (.is (.is (.is (.is (.is (.is .nil))))))))))))))))))))))))))))))
        · intro u W hb29 hd
          simp only [Facts, nthR, Is, and_true] at hd
          simp only [hd]
          have hl0 := hs.lt
          replace hs := hs.below hb29 hgl
          replace hbd := hbd.trans (hb29.mono hsz2)
          have hgl2 := hs.lt
          have hsz3 : D ≤ W.heap.size := Nat.le_trans hsz2 hb29.size
          clear hd hX hb29 hsz2 hgl hl0 u0 u1 u2 u3 g1 g2 g3 r1 r2 r3 x0 x1 i1 v1 o1 n1 i2 v2 o2 n2 i3 v3 o3 n3 b0 b1 b2 b3
          generalize leWord bs (atOf k) = wd at *
          obtain ⟨X, hA3⟩ : ∃ z, z = A2 + wd := ⟨_, rfl⟩
          have q3 : ((A2.toNat : Int) + (wd.toNat : Int)) % 4294967296 = (X.toNat : Int) := by rw [hA3]; exact w_add _ _
          have q3' : IntKind.u32.wrap ((A2.toNat : Int) + (wd.toNat : Int)) = (X.toNat : Int) := by rw [IntKind.wrap_u32]; exact q3
          rw [← hA3] at HS
          clear hA3
          have hX2 := fun (V : World) (h : Below W.heap.size W V) => (show V.cell? ⟨g, 0, none⟩ = some (.int .u32 q.a.toNat) ∧ V.cell? ⟨gk, k, none⟩ = some (.int .u32 sn.toNat) from
            ⟨((hs.below h hgl2).cell 0), ((hbd.trans (h.mono hsz3)).cell (p := ⟨gk, k, none⟩) hgk).trans hkk⟩)
          have k0 : (0 : Int) ≤ (k : Int) := by omega
          have k1 : (k : Int) < 64 := by omega
          go_wp2
          apply wp_region_once (D := [[], [0], [], [0, 1, 2], [], [4], [4, 5], [0, 1, 2, 3, 4, 5, 6], [], [0, 1, 2, 3, 4, 5, 6, 7, 8], [0, 1, 2, 3, 4, 5, 6, 7, 8, 9]]) (J := [[], [0], [], [1, 2], [], [4], [5], [3, 6], [], [7, 8], [9]]) (Je := [10]) (Rs := [Is _, Is _, Is _, Is _, Is _, Is _, Is _, Is _, Is _, Is _, Is _])
          · kernel_rfl
          · kernel_rfl
          · kernel_rfl
          · kernel_rfl
          · kernel_rfl
          · kernel_rfl
          · intro u
            simp only [List.map_cons, List.map_nil, fillU, List.setIfInBounds_toArray, List.set_cons_zero, List.set_cons_succ, Nat.zero_add, Nat.reduceAdd]
            exact rfl
          · skip
            refine ⟨fun u W hb hd K hK => ?_, ?_⟩
            · clear hd
              go_simp
              apply hK
              · simp only [Act.put, List.setIfInBounds_toArray, List.set_cons_zero, List.set_cons_succ]
                exact rfl
              · exact Below.refl _ _
              · exact IsOut
            refine ⟨fun u W hb hd K hK => ?_, ?_⟩
            · simp only [Facts, nthR, Is, and_true] at hd
              simp only [hd] at hK ⊢
              clear hd
              go_simp
              apply hK
              · simp only [Act.put, List.setIfInBounds_toArray, List.set_cons_zero, List.set_cons_succ]
                exact rfl
              · exact Below.refl _ _
              · exact IsOut
            refine ⟨fun u W hb hd K hK => ?_, ?_⟩
            · clear hd
              go_simp
              apply hK
              · simp only [Act.put, List.setIfInBounds_toArray, List.set_cons_zero, List.set_cons_succ]
                exact rfl
              · exact Below.refl _ _
              · exact IsOut
            refine ⟨fun u W hb hd K hK => ?_, ?_⟩
            · simp only [Facts, nthR, Is, and_true] at hd
              simp only [hd] at hK ⊢
              clear hd
              go_simp
              apply hK
              · simp only [Act.put, List.setIfInBounds_toArray, List.set_cons_zero, List.set_cons_succ]
                exact rfl
              · exact Below.refl _ _
              · exact IsOut
            refine ⟨fun u W hb hd K hK => ?_, ?_⟩
            · clear hd
              go_simp
              apply hK
              · simp only [Act.put, List.setIfInBounds_toArray, List.set_cons_zero, List.set_cons_succ]
                exact rfl
              · exact Below.refl _ _
              · exact IsOut
            refine ⟨fun u W hb hd K hK => ?_, ?_⟩
            · simp only [Facts, nthR, Is, and_true] at hd
              simp only [hd] at hK ⊢
              clear hd
              go_simp
              apply hK
              · simp only [Act.put, List.setIfInBounds_toArray, List.set_cons_zero, List.set_cons_succ]
                exact rfl
              · exact Below.refl _ _
              · exact IsOut
            refine ⟨fun u W hb hd K hK => ?_, ?_⟩
            · simp only [Facts, nthR, Is, and_true] at hd
              simp only [hd] at hK ⊢
              clear hd
              go_simp
              apply hK
              · simp only [Act.put, List.setIfInBounds_toArray, List.set_cons_zero, List.set_cons_succ]
                exact rfl
              · exact Below.refl _ _
              · exact IsOut
            refine ⟨fun u W hb hd K hK => ?_, ?_⟩
            · simp only [Facts, nthR, Is, and_true] at hd
              simp only [hd] at hK ⊢
              clear hd
              go_simp
              apply hK
              · simp only [Act.put, List.setIfInBounds_toArray, List.set_cons_zero, List.set_cons_succ]
                exact rfl
              · exact Below.refl _ _
              · exact IsOut
            refine ⟨fun u W hb hd K hK => ?_, ?_⟩
            · clear hd
              go_simp
              apply hK
              · simp only [Act.put, List.setIfInBounds_toArray, List.set_cons_zero, List.set_cons_succ]
                exact rfl
              · exact Below.refl _ _
              · exact IsOut
            refine ⟨fun u W hb hd K hK => ?_, ?_⟩
            · simp only [Facts, nthR, Is, and_true] at hd
              simp only [hd] at hK ⊢
              clear hd
              go_simp
              apply hK
              · simp only [Act.put, List.setIfInBounds_toArray, List.set_cons_zero, List.set_cons_succ]
                exact rfl
              · exact Below.refl _ _
              · exact IsOut
            refine ⟨fun u W hb hd K hK => ?_, ?_⟩
            · simp only [Facts, nthR, Is, and_true] at hd
              simp only [hd] at hK ⊢
              clear hd
              go_simp
              apply hK
              · simp only [Act.put, List.setIfInBounds_toArray, List.set_cons_zero, List.set_cons_succ]
                exact rfl
              · exact Below.refl _ _
              · exact IsOut
            exact trivial
          · exact (.is (.is (.is (.is (.is (.is (.is (.is (.is (.is (.is .nil)))))))))))
          · intro u W hb30 hd
            simp only [Facts, nthR, Is, and_true] at hd
            simp only [hd]
            replace hs := hs.below hb30 hgl2
            replace hbd := hbd.trans (hb30.mono hsz3)
            have hgl4 := hs.lt
            have hsz4 : D ≤ W.heap.size := Nat.le_trans hsz3 hb30.size
            clear hd hX2 hb30 hsz3 hgl2 q1 q2 q3 q1' q2' q3'
            obtain ⟨L1, hL1⟩ : ∃ z, z = X <<< UInt32.ofNat sh := ⟨_, rfl⟩
            obtain ⟨L2, hL2⟩ : ∃ z, z = X >>> UInt32.ofNat (32 - sh) := ⟨_, rfl⟩
            have w1 : ((X.toNat : Int) * 2 ^ sh) % 4294967296 = (L1.toNat : Int) := by rw [hL1]; exact w_shl X sh hsh.2
            have w1' : IntKind.u32.wrap ((X.toNat : Int) * 2 ^ sh) = (L1.toNat : Int) := by rw [IntKind.wrap_u32]; exact w1
            obtain ⟨sc, hsc⟩ : ∃ z, z = 32 - sh := ⟨_, rfl⟩
            have w2 : (X.toNat : Int) / 2 ^ sc = (L2.toNat : Int) := by rw [hL2, hsc]; exact w_shr X (32 - sh) (by omega)
            have w3 : bits .or .u32 (L1.toNat : Int) (L2.toNat : Int) = ((rotl sh X).toNat : Int) := by rw [w_or, hL1, hL2]; rfl
            clear hL1 hL2
            have s0 : ¬ ((sh : Int) < 0) := by omega
            have s1 : ((32 : Int) - sh) = (sc : Int) := by omega
            have s2 : ¬ ((sc : Int) < 0) := by omega
            have s3 : min sh 32 = sh := by omega
            have s4 : min sc 32 = sc := by omega
            have s7 : IntKind.i64.wrap (sc : Int) = (sc : Int) := by rw [IntKind.wrap_i64]; omega
            have s8 : (sc : Int) < 32 := by omega
            have s9 : (0 : Int) ≤ (sc : Int) := by omega
            clear hsc
            have s5 : (sh : Int) < 32 := by omega
            have s6 : (0 : Int) ≤ (sh : Int) := by omega
            go_wp2
            apply wp_region_once_tail (m := 10) (Z := []) (D := [[], [], [1], [0, 1, 2], [], [], [1, 2, 5], [1, 2, 5, 6], [1, 2, 4, 5, 6, 7], [0, 1, 2, 3, 4, 5, 6, 7, 8], [0, 1, 2, 3, 4, 5, 6, 7, 8, 9]]) (J := [[], [], [1], [0, 2], [], [], [5], [6], [4, 7], [3, 8]]) (Je := [9]) (Rs := [Is _, Is _, Is _, Is _, Is _, Is _, Is _, Is _, Is _, Is _])
            · kernel_rfl
            · kernel_rfl
            · kernel_rfl
            · kernel_rfl
            · kernel_rfl
            · kernel_rfl
            · kernel_rfl
            · exact fun h => absurd rfl h
            · intro u
              simp only [List.take_succ_cons, List.take_zero, List.map_cons, List.map_nil, fillU, List.setIfInBounds_toArray, List.set_cons_zero, List.set_cons_succ, Nat.zero_add, Nat.reduceAdd]
              exact rfl
            · simp only [List.take_succ_cons, List.take_zero]
              refine ⟨fun u W hb hd K hK => ?_, ?_⟩
              · clear hd
                go_simp
                apply hK
                · simp only [Act.put, List.setIfInBounds_toArray, List.set_cons_zero, List.set_cons_succ]
                  exact rfl
                · exact Below.refl _ _
                · exact IsOut
              refine ⟨fun u W hb hd K hK => ?_, ?_⟩
              · clear hd
                go_simp
                apply hK
                · simp only [Act.put, List.setIfInBounds_toArray, List.set_cons_zero, List.set_cons_succ]
                  exact rfl
                · exact Below.refl _ _
                · exact IsOut
              refine ⟨fun u W hb hd K hK => ?_, ?_⟩
              · simp only [Facts, nthR, Is, and_true] at hd
                simp only [hd] at hK ⊢
                clear hd
                go_simp
                refine (hTU W).mono ?_
                rintro e wy ⟨rfl, hby⟩
                exact hK _ _ _ rfl hby IsOut
              refine ⟨fun u W hb hd K hK => ?_, ?_⟩
              · simp only [Facts, nthR, Is, and_true] at hd
                simp only [hd] at hK ⊢
                clear hd
                go_simp
                apply hK
                · simp only [Act.put, List.setIfInBounds_toArray, List.set_cons_zero, List.set_cons_succ]
                  exact rfl
                · exact Below.refl _ _
                · exact IsOut
              refine ⟨fun u W hb hd K hK => ?_, ?_⟩
              · clear hd
                go_simp
                apply hK
                · simp only [Act.put, List.setIfInBounds_toArray, List.set_cons_zero, List.set_cons_succ]
                  exact rfl
                · exact Below.refl _ _
                · exact IsOut
              refine ⟨fun u W hb hd K hK => ?_, ?_⟩
              · clear hd
                go_simp
                apply hK
                · simp only [Act.put, List.setIfInBounds_toArray, List.set_cons_zero, List.set_cons_succ]
                  exact rfl
                · exact Below.refl _ _
                · exact IsOut
              refine ⟨fun u W hb hd K hK => ?_, ?_⟩
              · simp only [Facts, nthR, Is, and_true] at hd
                simp only [hd] at hK ⊢
                clear hd
                go_simp
                refine (hTU W).mono ?_
                rintro e wy ⟨rfl, hby⟩
                exact hK _ _ _ rfl hby IsOut
              refine ⟨fun u W hb hd K hK => ?_, ?_⟩
              · simp only [Facts, nthR, Is, and_true] at hd
                simp only [hd] at hK ⊢
                clear hd
                go_simp
                apply hK
                · simp only [Act.put, List.setIfInBounds_toArray, List.set_cons_zero, List.set_cons_succ]
                  exact rfl
                · exact Below.refl _ _
                · exact IsOut
              refine ⟨fun u W hb hd K hK => ?_, ?_⟩
              · simp only [Facts, nthR, Is, and_true] at hd
                simp only [hd] at hK ⊢
                clear hd
                go_simp
                apply hK
                · simp only [Act.put, List.setIfInBounds_toArray, List.set_cons_zero, List.set_cons_succ]
                  exact rfl
                · exact Below.refl _ _
                · exact IsOut
              refine ⟨fun u W hb hd K hK => ?_, ?_⟩
              · simp only [Facts, nthR, Is, and_true] at hd
                simp only [hd] at hK ⊢
                clear hd
                go_simp
                apply hK
                · simp only [Act.put, List.setIfInBounds_toArray, List.set_cons_zero, List.set_cons_succ]
                  exact rfl
                · exact Below.refl _ _
                · exact IsOut
              exact trivial
            · skip
              exact trivial
            · exact (.is (.is (.is (.is (.is (.is (.is (.is (.is (.is .nil))))))))))
            · intro u W hb31 hd
              simp only [List.drop_succ_cons, List.drop_zero]
              simp only [Facts, nthR, Is, and_true] at hd
              simp only [hd]
              replace hs := hs.below hb31 hgl4
              replace hbd := hbd.trans (hb31.mono hsz4)
              have hsz5 : D ≤ W.heap.size := Nat.le_trans hsz4 hb31.size
              clear hd hb31 hsz4 hgl4 w1 w1' w2 w3 s0 s1 s2 s3 s4 s5 s6 s7 s8 s9 hTU hsh
              generalize rotl sh X = r at *
              have c1 : World.cell? _ ⟨g, 1, none⟩ = some (.int .u32 q.b.toNat) := hs.cell 1
              have c2 : World.cell? _ ⟨g, 2, none⟩ = some (.int .u32 q.c.toNat) := hs.cell 2
              have c3 : World.cell? _ ⟨g, 3, none⟩ = some (.int .u32 q.d.toNat) := hs.cell 3
              obtain ⟨B1, hB1⟩ : ∃ z, z = q.b + r := ⟨_, rfl⟩
              have q6 : ((q.b.toNat : Int) + (r.toNat : Int)) % 4294967296 = (B1.toNat : Int) := by rw [hB1]; exact w_add _ _
              have q6' : IntKind.u32.wrap ((q.b.toNat : Int) + (r.toNat : Int)) = (B1.toNat : Int) := by rw [IntKind.wrap_u32]; exact q6
              rw [← hB1] at HS
              clear hB1
              obtain ⟨qn, hqn⟩ : ∃ qn : Qd, qn = ⟨q.d, B1, q.b, q.c⟩ := ⟨_, rfl⟩
              have HV : Hid (Value.agg #[.int .u32 q.d.toNat, .int .u32 B1.toNat, .int .u32 q.b.toNat, .int .u32 q.c.toNat] = .agg qn.vals.toArray) := Lib.hid (by rw [hqn]; rfl)
              rw [← hqn] at HS
              clear hqn
              go_wp2_with ((with_reducible refine (?_ : wpList _ _ _ (Oper.mk none (.store 120 _ _) _ _ _ _ :: _) _ _)); go_loud (refine wpList_store_blk rfl 120 (.tmp 9) (.tmp 184) rfl rfl g qn.vals rfl HV.out 120 _ hs (info43 _) rfl (qd_one4 _) ?_); intro w10 hs4 hg4)
              go_roundw
              case rel => exact ⟨k + 1, qn, by omega, by go_num, HS.out.symm, hs4, hbd.trans (grown_below hg4 hD hsz5)⟩
              case measure => simp [intOf]; omega
      by_cases hc1 : k < 32
      · skip
        have hmx : mixOf k q.b q.c q.d = (q.b &&& q.d) ||| (q.c &&& ~~~q.d) := by unfold mixOf; rw [if_neg hc0, if_pos hc1]
        have ha : atOf k = (5 * k + 1) % 16 := by unfold atOf; rw [if_neg hc0, if_pos hc1]
        have e0 : ((k : Int) / 16 == 0) = false := by simp; omega
        have e1 : ((k : Int) / 16 == 1) = true := by simp; omega
        have hai : (5 * (k : Int) + 1) % 16 = ((atOf k : Nat) : Int) := by omega
        have hxi : (p : Int) + 4 * ((atOf k : Nat) : Int) = (x : Int) := by omega
        obtain ⟨z0, hz0⟩ : ∃ z, z = q.d &&& q.b := ⟨_, rfl⟩
        have fz0 : bits .and .u32 (q.d.toNat : Int) (q.b.toNat : Int) = (z0.toNat : Int) := by rw [hz0]; exact w_and _ _
        obtain ⟨z1, hz1⟩ : ∃ z, z = ~~~q.d := ⟨_, rfl⟩
        have fz1 : bits .xor .u32 IntKind.u32.max (q.d.toNat : Int) = (z1.toNat : Int) := by rw [hz1]; exact w_not _
        obtain ⟨z2, hz2⟩ : ∃ z, z = z1 &&& q.c := ⟨_, rfl⟩
        have fz2 : bits .and .u32 (z1.toNat : Int) (q.c.toNat : Int) = (z2.toNat : Int) := by rw [hz2]; exact w_and _ _
        have fl : bits .or .u32 (z0.toNat : Int) (z2.toNat : Int) = ((mixOf k q.b q.c q.d).toNat : Int) := by rw [w_or, hmx, hz2, hz1, hz0, UInt32.and_comm q.d q.b, UInt32.and_comm (~~~q.d) q.c]
        clear hmx ha hx hat hz0 hz1 hz2
        generalize mixOf k q.b q.c q.d = mx at *
        go_wp2
        clear fz0 fz1 fz2 fl hxi e0 e1 hai c0 c1 c2 c3
        obtain ⟨Y0, hY0⟩ : ∃ z, z = y0.toUInt32 := ⟨_, rfl⟩
        have u0 : IntKind.u32.wrap (y0.toNat : Int) = (Y0.toNat : Int) := by rw [hY0, ← u8_mod, IntKind.wrap_u32]
        obtain ⟨Y1, hY1⟩ : ∃ z, z = y1.toUInt32 := ⟨_, rfl⟩
        have u1 : IntKind.u32.wrap (y1.toNat : Int) = (Y1.toNat : Int) := by rw [hY1, ← u8_mod, IntKind.wrap_u32]
        obtain ⟨Y2, hY2⟩ : ∃ z, z = y2.toUInt32 := ⟨_, rfl⟩
        have u2 : IntKind.u32.wrap (y2.toNat : Int) = (Y2.toNat : Int) := by rw [hY2, ← u8_mod, IntKind.wrap_u32]
        obtain ⟨Y3, hY3⟩ : ∃ z, z = y3.toUInt32 := ⟨_, rfl⟩
        have u3 : IntKind.u32.wrap (y3.toNat : Int) = (Y3.toNat : Int) := by rw [hY3, ← u8_mod, IntKind.wrap_u32]
        obtain ⟨S1, hS1⟩ : ∃ z, z = Y1 <<< 8 := ⟨_, rfl⟩
        have g1 : IntKind.u32.wrap ((Y1.toNat : Int) * 256) = (S1.toNat : Int) := by rw [hS1, ← w_shl8, IntKind.wrap_u32]
        obtain ⟨S2, hS2⟩ : ∃ z, z = Y2 <<< 16 := ⟨_, rfl⟩
        have g2 : IntKind.u32.wrap ((Y2.toNat : Int) * 65536) = (S2.toNat : Int) := by rw [hS2, ← w_shl16, IntKind.wrap_u32]
        obtain ⟨S3, hS3⟩ : ∃ z, z = Y3 <<< 24 := ⟨_, rfl⟩
        have g3 : IntKind.u32.wrap ((Y3.toNat : Int) * 16777216) = (S3.toNat : Int) := by rw [hS3, ← w_shl24, IntKind.wrap_u32]
        obtain ⟨R1, hR1⟩ : ∃ z, z = Y0 ||| S1 := ⟨_, rfl⟩
        have r1 : bits .or .u32 (Y0.toNat : Int) (S1.toNat : Int) = (R1.toNat : Int) := by rw [hR1]; exact w_or _ _
        obtain ⟨R2, hR2⟩ : ∃ z, z = R1 ||| S2 := ⟨_, rfl⟩
        have r2 : bits .or .u32 (R1.toNat : Int) (S2.toNat : Int) = (R2.toNat : Int) := by rw [hR2]; exact w_or _ _
        have r3 : bits .or .u32 (R2.toNat : Int) (S3.toNat : Int) = ((leWord bs (atOf k)).toNat : Int) := by rw [hle, w_or R2 S3, hR2, hR1, hS1, hS2, hS3, hY0, hY1, hY2, hY3]
        clear hle hY0 hY1 hY2 hY3 hS1 hS2 hS3 hR1 hR2
        obtain ⟨A1, hA1⟩ : ∃ z, z = q.a + mx := ⟨_, rfl⟩
        obtain ⟨A2, hA2⟩ : ∃ z, z = A1 + sn := ⟨_, rfl⟩
        have q1 : ((q.a.toNat : Int) + (mx.toNat : Int)) % 4294967296 = (A1.toNat : Int) := by rw [hA1]; exact w_add _ _
        have q2 : ((A1.toNat : Int) + (sn.toNat : Int)) % 4294967296 = (A2.toNat : Int) := by rw [hA2]; exact w_add _ _
        have q1' : IntKind.u32.wrap ((q.a.toNat : Int) + (mx.toNat : Int)) = (A1.toNat : Int) := by rw [IntKind.wrap_u32]; exact q1
        have q2' : IntKind.u32.wrap ((A1.toNat : Int) + (sn.toNat : Int)) = (A2.toNat : Int) := by rw [IntKind.wrap_u32]; exact q2
        rw [← hA1, ← hA2] at HS
        clear hA1 hA2
        have x0 : (0 : Int) ≤ (x : Int) := by omega
        have x1 : (x : Int) < 1099511627773 := by omega
        have i1 : (x : Int) + 1 < (n : Int) := by omega
        have v1 : IntKind.i64.wrap ((x : Int) + 1) = (x : Int) + 1 := by rw [IntKind.wrap_i64]; omega
        have o1 : (0 : Int) ≤ (x : Int) + 1 := by omega
        have n1 : ((x : Int) + 1).toNat = x + 1 := by omega
        have i2 : (x : Int) + 2 < (n : Int) := by omega
        have v2 : IntKind.i64.wrap ((x : Int) + 2) = (x : Int) + 2 := by rw [IntKind.wrap_i64]; omega
        have o2 : (0 : Int) ≤ (x : Int) + 2 := by omega
        have n2 : ((x : Int) + 2).toNat = x + 2 := by omega
        have i3 : (x : Int) + 3 < (n : Int) := by omega
        have v3 : IntKind.i64.wrap ((x : Int) + 3) = (x : Int) + 3 := by rw [IntKind.wrap_i64]; omega
        have o3 : (0 : Int) ≤ (x : Int) + 3 := by omega
        have n3 : ((x : Int) + 3).toNat = x + 3 := by omega
        apply wp_region_once (D := [[], [], [0, 1], [0, 1, 2], [0, 1, 2, 3], [], [], [6], [5, 6, 7], [5, 6, 7, 8], [5, 6, 7, 8, 9], [5, 6, 7, 8, 9, 10], [0, 1, 2, 3, 4, 5, 6, 7, 8, 9, 10, 11], [], [], [14], [13, 14, 15], [13, 14, 15, 16], [13, 14, 15, 16, 17], [13, 14, 15, 16, 17, 18], [0, 1, 2, 3, 4, 5, 6, 7, 8, 9, 10, 11, 12, 13, 14, 15, 16, 17, 18, 19], [], [], [22], [21, 22, 23], [21, 22, 23, 24], [21, 22, 23, 24, 25], [21, 22, 23, 24, 25, 26], [0, 1, 2, 3, 4, 5, 6, 7, 8, 9, 10, 11, 12, 13, 14, 15, 16, 17, 18, 19, 20, 21, 22, 23, 24, 25, 26, 27], [0, 1, 2, 3, 4, 5, 6, 7, 8, 9, 10, 11, 12, 13, 14, 15, 16, 17, 18, 19, 20, 21, 22, 23, 24, 25, 26, 27, 28]]) (J := [[], [], [0, 1], [2], [3], [], [], [6], [5, 7], [8], [9], [10], [4, 11], [], [], [14], [13, 15], [16], [17], [18], [12, 19], [], [], [22], [21, 23], [24], [25], [26], [20, 27], [28]]) (Je := [29]) (Rs := [Is _, Is _, Is _, Is _, Is _, Is _, Is _, Is _, Is _, Is _, Is _, Is _, Is _, Is _, Is _, Is _, Is _, Is _, Is _, Is _, Is _, Is _, Is _, Is _, Is _, Is _, Is _, Is _, Is _, Is _])
        · kernel_rfl
        · kernel_rfl
        · kernel_rfl
        · kernel_rfl
        · kernel_rfl
        · kernel_rfl
        · intro u
          simp only [List.map_cons, List.map_nil, fillU, List.setIfInBounds_toArray, List.set_cons_zero, List.set_cons_succ, Nat.zero_add, Nat.reduceAdd]
          exact rfl
        · skip
          refine ⟨fun u W hb hd K hK => ?_, ?_⟩
          · clear hd
            go_simp
            apply hK
            · simp only [Act.put, List.setIfInBounds_toArray, List.set_cons_zero, List.set_cons_succ]
              exact rfl
            · exact Below.refl _ _
            · exact IsOut
          refine ⟨fun u W hb hd K hK => ?_, ?_⟩
          · clear hd
            go_simp
            apply hK
            · simp only [Act.put, List.setIfInBounds_toArray, List.set_cons_zero, List.set_cons_succ]
              exact rfl
            · exact Below.refl _ _
            · exact IsOut
          refine ⟨fun u W hb hd K hK => ?_, ?_⟩
          · simp only [Facts, nthR, Is, and_true] at hd
            simp only [hd] at hK ⊢
            clear hd
            go_simp
            apply hK
            · simp only [Act.put, List.setIfInBounds_toArray, List.set_cons_zero, List.set_cons_succ]
              exact rfl
            · exact Below.refl _ _
            · exact IsOut
          refine ⟨fun u W hb hd K hK => ?_, ?_⟩
          · simp only [Facts, nthR, Is, and_true] at hd
            simp only [hd] at hK ⊢
            clear hd
            go_simp
            apply hK
            · simp only [Act.put, List.setIfInBounds_toArray, List.set_cons_zero, List.set_cons_succ]
              exact rfl
            · exact Below.refl _ _
            · exact IsOut
          refine ⟨fun u W hb hd K hK => ?_, ?_⟩
          · simp only [Facts, nthR, Is, and_true] at hd
            simp only [hd] at hK ⊢
            clear hd
            go_simp
            apply hK
            · simp only [Act.put, List.setIfInBounds_toArray, List.set_cons_zero, List.set_cons_succ]
              exact rfl
            · exact Below.refl _ _
            · exact IsOut
          refine ⟨fun u W hb hd K hK => ?_, ?_⟩
          · clear hd
            go_simp
            apply hK
            · simp only [Act.put, List.setIfInBounds_toArray, List.set_cons_zero, List.set_cons_succ]
              exact rfl
            · exact Below.refl _ _
            · exact IsOut
          refine ⟨fun u W hb hd K hK => ?_, ?_⟩
          · clear hd
            go_simp
            apply hK
            · simp only [Act.put, List.setIfInBounds_toArray, List.set_cons_zero, List.set_cons_succ]
              exact rfl
            · exact Below.refl _ _
            · exact IsOut
          refine ⟨fun u W hb hd K hK => ?_, ?_⟩
          · simp only [Facts, nthR, Is, and_true] at hd
            simp only [hd] at hK ⊢
            clear hd
            go_simp
            apply hK
            · simp only [Act.put, List.setIfInBounds_toArray, List.set_cons_zero, List.set_cons_succ]
              exact rfl
            · exact Below.refl _ _
            · exact IsOut
          refine ⟨fun u W hb hd K hK => ?_, ?_⟩
          · simp only [Facts, nthR, Is, and_true] at hd
            simp only [hd] at hK ⊢
            clear hd
            go_simp
            apply hK
            · simp only [Act.put, List.setIfInBounds_toArray, List.set_cons_zero, List.set_cons_succ]
              exact rfl
            · exact Below.refl _ _
            · exact IsOut
          refine ⟨fun u W hb hd K hK => ?_, ?_⟩
          · simp only [Facts, nthR, Is, and_true] at hd
            simp only [hd] at hK ⊢
            clear hd
            go_simp
            apply hK
            · simp only [Act.put, List.setIfInBounds_toArray, List.set_cons_zero, List.set_cons_succ]
              exact rfl
            · exact Below.refl _ _
            · exact IsOut
          refine ⟨fun u W hb hd K hK => ?_, ?_⟩
          · simp only [Facts, nthR, Is, and_true] at hd
            simp only [hd] at hK ⊢
            clear hd
            go_simp
            apply hK
            · simp only [Act.put, List.setIfInBounds_toArray, List.set_cons_zero, List.set_cons_succ]
              exact rfl
            · exact Below.refl _ _
            · exact IsOut
          refine ⟨fun u W hb hd K hK => ?_, ?_⟩
          · simp only [Facts, nthR, Is, and_true] at hd
            simp only [hd] at hK ⊢
            clear hd
            go_simp
            apply hK
            · simp only [Act.put, List.setIfInBounds_toArray, List.set_cons_zero, List.set_cons_succ]
              exact rfl
            · exact Below.refl _ _
            · exact IsOut
          refine ⟨fun u W hb hd K hK => ?_, ?_⟩
          · simp only [Facts, nthR, Is, and_true] at hd
            simp only [hd] at hK ⊢
            clear hd
            go_simp
            apply hK
            · simp only [Act.put, List.setIfInBounds_toArray, List.set_cons_zero, List.set_cons_succ]
              exact rfl
            · exact Below.refl _ _
            · exact IsOut
          refine ⟨fun u W hb hd K hK => ?_, ?_⟩
          · clear hd
            go_simp
            apply hK
            · simp only [Act.put, List.setIfInBounds_toArray, List.set_cons_zero, List.set_cons_succ]
              exact rfl
            · exact Below.refl _ _
            · exact IsOut
          refine ⟨fun u W hb hd K hK => ?_, ?_⟩
          · clear hd
            go_simp
            apply hK
            · simp only [Act.put, List.setIfInBounds_toArray, List.set_cons_zero, List.set_cons_succ]
              exact rfl
            · exact Below.refl _ _
            · exact IsOut
          refine ⟨fun u W hb hd K hK => ?_, ?_⟩
          · simp only [Facts, nthR, Is, and_true] at hd
            simp only [hd] at hK ⊢
            clear hd
            go_simp
            apply hK
            · simp only [Act.put, List.setIfInBounds_toArray, List.set_cons_zero, List.set_cons_succ]
              exact rfl
            · exact Below.refl _ _
            · exact IsOut
          refine ⟨fun u W hb hd K hK => ?_, ?_⟩
          · simp only [Facts, nthR, Is, and_true] at hd
            simp only [hd] at hK ⊢
            clear hd
            go_simp
            apply hK
            · simp only [Act.put, List.setIfInBounds_toArray, List.set_cons_zero, List.set_cons_succ]
              exact rfl
            · exact Below.refl _ _
            · exact IsOut
          refine ⟨fun u W hb hd K hK => ?_, ?_⟩
          · simp only [Facts, nthR, Is, and_true] at hd
            simp only [hd] at hK ⊢
            clear hd
            go_simp
            apply hK
            · simp only [Act.put, List.setIfInBounds_toArray, List.set_cons_zero, List.set_cons_succ]
              exact rfl
            · exact Below.refl _ _
            · exact IsOut
          refine ⟨fun u W hb hd K hK => ?_, ?_⟩
          · simp only [Facts, nthR, Is, and_true] at hd
            simp only [hd] at hK ⊢
            clear hd
            go_simp
            apply hK
            · simp only [Act.put, List.setIfInBounds_toArray, List.set_cons_zero, List.set_cons_succ]
              exact rfl
            · exact Below.refl _ _
            · exact IsOut
          refine ⟨fun u W hb hd K hK => ?_, ?_⟩
          · simp only [Facts, nthR, Is, and_true] at hd
            simp only [hd] at hK ⊢
            clear hd
            go_simp
            apply hK
            · simp only [Act.put, List.setIfInBounds_toArray, List.set_cons_zero, List.set_cons_succ]
              exact rfl
            · exact Below.refl _ _
            · exact IsOut
          refine ⟨fun u W hb hd K hK => ?_, ?_⟩
          · simp only [Facts, nthR, Is, and_true] at hd
            simp only [hd] at hK ⊢
            clear hd
            go_simp
            apply hK
            · simp only [Act.put, List.setIfInBounds_toArray, List.set_cons_zero, List.set_cons_succ]
              exact rfl
            · exact Below.refl _ _
            · exact IsOut
          refine ⟨fun u W hb hd K hK => ?_, ?_⟩
          · clear hd
            go_simp
            apply hK
            · simp only [Act.put, List.setIfInBounds_toArray, List.set_cons_zero, List.set_cons_succ]
              exact rfl
            · exact Below.refl _ _
            · exact IsOut
          refine ⟨fun u W hb hd K hK => ?_, ?_⟩
          · clear hd
            go_simp
            apply hK
            · simp only [Act.put, List.setIfInBounds_toArray, List.set_cons_zero, List.set_cons_succ]
              exact rfl
            · exact Below.refl _ _
            · exact IsOut
          refine ⟨fun u W hb hd K hK => ?_, ?_⟩
          · simp only [Facts, nthR, Is, and_true] at hd
            simp only [hd] at hK ⊢
            clear hd
            go_simp
            apply hK
            · simp only [Act.put, List.setIfInBounds_toArray, List.set_cons_zero, List.set_cons_succ]
              exact rfl
            · exact Below.refl _ _
            · exact IsOut
          refine ⟨fun u W hb hd K hK => ?_, ?_⟩
          · simp only [Facts, nthR, Is, and_true] at hd
            simp only [hd] at hK ⊢
            clear hd
            go_simp
            apply hK
            · simp only [Act.put, List.setIfInBounds_toArray, List.set_cons_zero, List.set_cons_succ]
              exact rfl
            · exact Below.refl _ _
            · exact IsOut
          refine ⟨fun u W hb hd K hK => ?_, ?_⟩
          · simp only [Facts, nthR, Is, and_true] at hd
            simp only [hd] at hK ⊢
            clear hd
            go_simp
            apply hK
            · simp only [Act.put, List.setIfInBounds_toArray, List.set_cons_zero, List.set_cons_succ]
              exact rfl
            · exact Below.refl _ _
            · exact IsOut
          refine ⟨fun u W hb hd K hK => ?_, ?_⟩
          · simp only [Facts, nthR, Is, and_true] at hd
            simp only [hd] at hK ⊢
            clear hd
            go_simp
            apply hK
            · simp only [Act.put, List.setIfInBounds_toArray, List.set_cons_zero, List.set_cons_succ]
              exact rfl
            · exact Below.refl _ _
            · exact IsOut
          refine ⟨fun u W hb hd K hK => ?_, ?_⟩
          · simp only [Facts, nthR, Is, and_true] at hd
            simp only [hd] at hK ⊢
            clear hd
            go_simp
            apply hK
            · simp only [Act.put, List.setIfInBounds_toArray, List.set_cons_zero, List.set_cons_succ]
              exact rfl
            · exact Below.refl _ _
            · exact IsOut
          refine ⟨fun u W hb hd K hK => ?_, ?_⟩
          · simp only [Facts, nthR, Is, and_true] at hd
            simp only [hd] at hK ⊢
            clear hd
            go_simp
            apply hK
            · simp only [Act.put, List.setIfInBounds_toArray, List.set_cons_zero, List.set_cons_succ]
              exact rfl
            · exact Below.refl _ _
            · exact IsOut
          refine ⟨fun u W hb hd K hK => ?_, ?_⟩
          · simp only [Facts, nthR, Is, and_true] at hd
            simp only [hd] at hK ⊢
            clear hd
            go_simp
            apply hK
            · simp only [Act.put, List.setIfInBounds_toArray, List.set_cons_zero, List.set_cons_succ]
              exact rfl
            · exact Below.refl _ _
            · exact IsOut
          exact trivial
        · exact (.is (.is (.is (.is (.is (.is (.is (.is (.is (.is (.is (.is (.is (.is (.is (.is (.is (.is (.is (.is (.is (.is (.is (.is (.is (.is (.is (.is (.is (.is .nil))))))))))))))))))))))))))))))
        · intro u W hb29 hd
          simp only [Facts, nthR, Is, and_true] at hd
          simp only [hd]
          have hl0 := hs.lt
          replace hs := hs.below hb29 hgl
          replace hbd := hbd.trans (hb29.mono hsz2)
          have hgl2 := hs.lt
          have hsz3 : D ≤ W.heap.size := Nat.le_trans hsz2 hb29.size
          clear hd hX hb29 hsz2 hgl hl0 u0 u1 u2 u3 g1 g2 g3 r1 r2 r3 x0 x1 i1 v1 o1 n1 i2 v2 o2 n2 i3 v3 o3 n3 b0 b1 b2 b3
          generalize leWord bs (atOf k) = wd at *
          obtain ⟨X, hA3⟩ : ∃ z, z = A2 + wd := ⟨_, rfl⟩
          have q3 : ((A2.toNat : Int) + (wd.toNat : Int)) % 4294967296 = (X.toNat : Int) := by rw [hA3]; exact w_add _ _
          have q3' : IntKind.u32.wrap ((A2.toNat : Int) + (wd.toNat : Int)) = (X.toNat : Int) := by rw [IntKind.wrap_u32]; exact q3
          rw [← hA3] at HS
          clear hA3
          have hX2 := fun (V : World) (h : Below W.heap.size W V) => (show V.cell? ⟨g, 0, none⟩ = some (.int .u32 q.a.toNat) ∧ V.cell? ⟨gk, k, none⟩ = some (.int .u32 sn.toNat) from
            ⟨((hs.below h hgl2).cell 0), ((hbd.trans (h.mono hsz3)).cell (p := ⟨gk, k, none⟩) hgk).trans hkk⟩)
          have k0 : (0 : Int) ≤ (k : Int) := by omega
          have k1 : (k : Int) < 64 := by omega
          go_wp2
          apply wp_region_once (D := [[], [0], [], [0, 1, 2], [], [4], [4, 5], [0, 1, 2, 3, 4, 5, 6], [], [0, 1, 2, 3, 4, 5, 6, 7, 8], [0, 1, 2, 3, 4, 5, 6, 7, 8, 9]]) (J := [[], [0], [], [1, 2], [], [4], [5], [3, 6], [], [7, 8], [9]]) (Je := [10]) (Rs := [Is _, Is _, Is _, Is _, Is _, Is _, Is _, Is _, Is _, Is _, Is _])
          · kernel_rfl
          · kernel_rfl
          · kernel_rfl
          · kernel_rfl
          · kernel_rfl
          · kernel_rfl
          · intro u
            simp only [List.map_cons, List.map_nil, fillU, List.setIfInBounds_toArray, List.set_cons_zero, List.set_cons_succ, Nat.zero_add, Nat.reduceAdd]
            exact rfl
          · skip
            refine ⟨fun u W hb hd K hK => ?_, ?_⟩
            · clear hd
              go_simp
              apply hK
              · simp only [Act.put, List.setIfInBounds_toArray, List.set_cons_zero, List.set_cons_succ]
                exact rfl
              · exact Below.refl _ _
              · exact IsOut
            refine ⟨fun u W hb hd K hK => ?_, ?_⟩
            · simp only [Facts, nthR, Is, and_true] at hd
              simp only [hd] at hK ⊢
              clear hd
              go_simp
              apply hK
              · simp only [Act.put, List.setIfInBounds_toArray, List.set_cons_zero, List.set_cons_succ]
                exact rfl
              · exact Below.refl _ _
              · exact IsOut
            refine ⟨fun u W hb hd K hK => ?_, ?_⟩
            · clear hd
              go_simp
              apply hK
              · simp only [Act.put, List.setIfInBounds_toArray, List.set_cons_zero, List.set_cons_succ]
                exact rfl
              · exact Below.refl _ _
              · exact IsOut
            refine ⟨fun u W hb hd K hK => ?_, ?_⟩
            · simp only [Facts, nthR, Is, and_true] at hd
              simp only [hd] at hK ⊢
              clear hd
              go_simp
              apply hK
              · simp only [Act.put, List.setIfInBounds_toArray, List.set_cons_zero, List.set_cons_succ]
                exact rfl
              · exact Below.refl _ _
              · exact IsOut
            refine ⟨fun u W hb hd K hK => ?_, ?_⟩
            · clear hd
              go_simp
              apply hK
              · simp only [Act.put, List.setIfInBounds_toArray, List.set_cons_zero, List.set_cons_succ]
                exact rfl
              · exact Below.refl _ _
              · exact IsOut
            refine ⟨fun u W hb hd K hK => ?_, ?_⟩
            · simp only [Facts, nthR, Is, and_true] at hd
              simp only [hd] at hK ⊢
              clear hd
              go_simp
              apply hK
              · simp only [Act.put, List.setIfInBounds_toArray, List.set_cons_zero, List.set_cons_succ]
                exact rfl
              · exact Below.refl _ _
              · exact IsOut
            refine ⟨fun u W hb hd K hK => ?_, ?_⟩
            · simp only [Facts, nthR, Is, and_true] at hd
              simp only [hd] at hK ⊢
              clear hd
              go_simp
              apply hK
              · simp only [Act.put, List.setIfInBounds_toArray, List.set_cons_zero, List.set_cons_succ]
                exact rfl
              · exact Below.refl _ _
              · exact IsOut
            refine ⟨fun u W hb hd K hK => ?_, ?_⟩
            · simp only [Facts, nthR, Is, and_true] at hd
              simp only [hd] at hK ⊢
              clear hd
              go_simp
              apply hK
              · simp only [Act.put, List.setIfInBounds_toArray, List.set_cons_zero, List.set_cons_succ]
                exact rfl
              · exact Below.refl _ _
              · exact IsOut
            refine ⟨fun u W hb hd K hK => ?_, ?_⟩
            · clear hd
              go_simp
              apply hK
              · simp only [Act.put, List.setIfInBounds_toArray, List.set_cons_zero, List.set_cons_succ]
                exact rfl
              · exact Below.refl _ _
              · exact IsOut
            refine ⟨fun u W hb hd K hK => ?_, ?_⟩
            · simp only [Facts, nthR, Is, and_true] at hd
              simp only [hd] at hK ⊢
              clear hd
              go_simp
              apply hK
              · simp only [Act.put, List.setIfInBounds_toArray, List.set_cons_zero, List.set_cons_succ]
                exact rfl
              · exact Below.refl _ _
              · exact IsOut
            refine ⟨fun u W hb hd K hK => ?_, ?_⟩
            · simp only [Facts, nthR, Is, and_true] at hd
              simp only [hd] at hK ⊢
              clear hd
              go_simp
              apply hK
              · simp only [Act.put, List.setIfInBounds_toArray, List.set_cons_zero, List.set_cons_succ]
                exact rfl
              · exact Below.refl _ _
              · exact IsOut
            exact trivial
          · exact (.is (.is (.is (.is (.is (.is (.is (.is (.is (.is (.is .nil)))))))))))
          · intro u W hb30 hd
            simp only [Facts, nthR, Is, and_true] at hd
            simp only [hd]
            replace hs := hs.below hb30 hgl2
            replace hbd := hbd.trans (hb30.mono hsz3)
            have hgl4 := hs.lt
            have hsz4 : D ≤ W.heap.size := Nat.le_trans hsz3 hb30.size
            clear hd hX2 hb30 hsz3 hgl2 q1 q2 q3 q1' q2' q3'
            obtain ⟨L1, hL1⟩ : ∃ z, z = X <<< UInt32.ofNat sh := ⟨_, rfl⟩
            obtain ⟨L2, hL2⟩ : ∃ z, z = X >>> UInt32.ofNat (32 - sh) := ⟨_, rfl⟩
            have w1 : ((X.toNat : Int) * 2 ^ sh) % 4294967296 = (L1.toNat : Int) := by rw [hL1]; exact w_shl X sh hsh.2
            have w1' : IntKind.u32.wrap ((X.toNat : Int) * 2 ^ sh) = (L1.toNat : Int) := by rw [IntKind.wrap_u32]; exact w1
            obtain ⟨sc, hsc⟩ : ∃ z, z = 32 - sh := ⟨_, rfl⟩
            have w2 : (X.toNat : Int) / 2 ^ sc = (L2.toNat : Int) := by rw [hL2, hsc]; exact w_shr X (32 - sh) (by omega)
            have w3 : bits .or .u32 (L1.toNat : Int) (L2.toNat : Int) = ((rotl sh X).toNat : Int) := by rw [w_or, hL1, hL2]; rfl
            clear hL1 hL2
            have s0 : ¬ ((sh : Int) < 0) := by omega
            have s1 : ((32 : Int) - sh) = (sc : Int) := by omega
            have s2 : ¬ ((sc : Int) < 0) := by omega
            have s3 : min sh 32 = sh := by omega
            have s4 : min sc 32 = sc := by omega
            have s7 : IntKind.i64.wrap (sc : Int) = (sc : Int) := by rw [IntKind.wrap_i64]; omega
            have s8 : (sc : Int) < 32 := by omega
            have s9 : (0 : Int) ≤ (sc : Int) := by omega
            clear hsc
            have s5 : (sh : Int) < 32 := by omega
            have s6 : (0 : Int) ≤ (sh : Int) := by omega
            go_wp2
            apply wp_region_once_tail (m := 10) (Z := []) (D := [[], [], [1], [0, 1, 2], [], [], [1, 2, 5], [1, 2, 5, 6], [1, 2, 4, 5, 6, 7], [0, 1, 2, 3, 4, 5, 6, 7, 8], [0, 1, 2, 3, 4, 5, 6, 7, 8, 9]]) (J := [[], [], [1], [0, 2], [], [], [5], [6], [4, 7], [3, 8]]) (Je := [9]) (Rs := [Is _, Is _, Is _, Is _, Is _, Is _, Is _, Is _, Is _, Is _])
            · kernel_rfl
            · kernel_rfl
            · kernel_rfl
            · kernel_rfl
            · kernel_rfl
            · kernel_rfl
            · kernel_rfl
            · exact fun h => absurd rfl h
            · intro u
              simp only [List.take_succ_cons, List.take_zero, List.map_cons, List.map_nil, fillU, List.setIfInBounds_toArray, List.set_cons_zero, List.set_cons_succ, Nat.zero_add, Nat.reduceAdd]
              exact rfl
            · simp only [List.take_succ_cons, List.take_zero]
              refine ⟨fun u W hb hd K hK => ?_, ?_⟩
              · clear hd
                go_simp
                apply hK
                · simp only [Act.put, List.setIfInBounds_toArray, List.set_cons_zero, List.set_cons_succ]
                  exact rfl
                · exact Below.refl _ _
                · exact IsOut
              refine ⟨fun u W hb hd K hK => ?_, ?_⟩
              · clear hd
                go_simp
                apply hK
                · simp only [Act.put, List.setIfInBounds_toArray, List.set_cons_zero, List.set_cons_succ]
                  exact rfl
                · exact Below.refl _ _
                · exact IsOut
              refine ⟨fun u W hb hd K hK => ?_, ?_⟩
              · simp only [Facts, nthR, Is, and_true] at hd
                simp only [hd] at hK ⊢
                clear hd
                go_simp
                refine (hTU W).mono ?_
                rintro e wy ⟨rfl, hby⟩
                exact hK _ _ _ rfl hby IsOut
              refine ⟨fun u W hb hd K hK => ?_, ?_⟩
              · simp only [Facts, nthR, Is, and_true] at hd
                simp only [hd] at hK ⊢
                clear hd
                go_simp
                apply hK
                · simp only [Act.put, List.setIfInBounds_toArray, List.set_cons_zero, List.set_cons_succ]
                  exact rfl
                · exact Below.refl _ _
                · exact IsOut
              refine ⟨fun u W hb hd K hK => ?_, ?_⟩
              · clear hd
                go_simp
                apply hK
                · simp only [Act.put, List.setIfInBounds_toArray, List.set_cons_zero, List.set_cons_succ]
                  exact rfl
                · exact Below.refl _ _
                · exact IsOut
              refine ⟨fun u W hb hd K hK => ?_, ?_⟩
              · clear hd
                go_simp
                apply hK
                · simp only [Act.put, List.setIfInBounds_toArray, List.set_cons_zero, List.set_cons_succ]
                  exact rfl
                · exact Below.refl _ _
                · exact IsOut
              refine ⟨fun u W hb hd K hK => ?_, ?_⟩
              · simp only [Facts, nthR, Is, and_true] at hd
                simp only [hd] at hK ⊢
                clear hd
                go_simp
                refine (hTU W).mono ?_
                rintro e wy ⟨rfl, hby⟩
                exact hK _ _ _ rfl hby IsOut
              refine ⟨fun u W hb hd K hK => ?_, ?_⟩
              · simp only [Facts, nthR, Is, and_true] at hd
                simp only [hd] at hK ⊢
                clear hd
                go_simp
                apply hK
                · simp only [Act.put, List.setIfInBounds_toArray, List.set_cons_zero, List.set_cons_succ]
                  exact rfl
                · exact Below.refl _ _
                · exact IsOut
              refine ⟨fun u W hb hd K hK => ?_, ?_⟩
              · simp only [Facts, nthR, Is, and_true] at hd
                simp only [hd] at hK ⊢
                clear hd
                go_simp
                apply hK
                · simp only [Act.put, List.setIfInBounds_toArray, List.set_cons_zero, List.set_cons_succ]
                  exact rfl
                · exact Below.refl _ _
                · exact IsOut
              refine ⟨fun u W hb hd K hK => ?_, ?_⟩
              · simp only [Facts, nthR, Is, and_true] at hd
                simp only [hd] at hK ⊢
                clear hd
                go_simp
                apply hK
                · simp only [Act.put, List.setIfInBounds_toArray, List.set_cons_zero, List.set_cons_succ]
                  exact rfl
                · exact Below.refl _ _
                · exact IsOut
              exact trivial
            · skip
              exact trivial
            · exact (.is (.is (.is (.is (.is (.is (.is (.is (.is (.is .nil))))))))))
            · intro u W hb31 hd
              simp only [List.drop_succ_cons, List.drop_zero]
              simp only [Facts, nthR, Is, and_true] at hd
              simp only [hd]
              replace hs := hs.below hb31 hgl4
              replace hbd := hbd.trans (hb31.mono hsz4)
              have hsz5 : D ≤ W.heap.size := Nat.le_trans hsz4 hb31.size
              clear hd hb31 hsz4 hgl4 w1 w1' w2 w3 s0 s1 s2 s3 s4 s5 s6 s7 s8 s9 hTU hsh
              generalize rotl sh X = r at *
              have c1 : World.cell? _ ⟨g, 1, none⟩ = some (.int .u32 q.b.toNat) := hs.cell 1
              have c2 : World.cell? _ ⟨g, 2, none⟩ = some (.int .u32 q.c.toNat) := hs.cell 2
              have c3 : World.cell? _ ⟨g, 3, none⟩ = some (.int .u32 q.d.toNat) := hs.cell 3
              obtain ⟨B1, hB1⟩ : ∃ z, z = q.b + r := ⟨_, rfl⟩
              have q6 : ((q.b.toNat : Int) + (r.toNat : Int)) % 4294967296 = (B1.toNat : Int) := by rw [hB1]; exact w_add _ _
              have q6' : IntKind.u32.wrap ((q.b.toNat : Int) + (r.toNat : Int)) = (B1.toNat : Int) := by rw [IntKind.wrap_u32]; exact q6
              rw [← hB1] at HS
              clear hB1
              obtain ⟨qn, hqn⟩ : ∃ qn : Qd, qn = ⟨q.d, B1, q.b, q.c⟩ := ⟨_, rfl⟩
              have HV : Hid (Value.agg #[.int .u32 q.d.toNat, .int .u32 B1.toNat, .int .u32 q.b.toNat, .int .u32 q.c.toNat] = .agg qn.vals.toArray) := Lib.hid (by rw [hqn]; rfl)
              rw [← hqn] at HS
              clear hqn
              go_wp2_with ((with_reducible refine (?_ : wpList _ _ _ (Oper.mk none (.store 120 _ _) _ _ _ _ :: _) _ _)); go_loud (refine wpList_store_blk rfl 120 (.tmp 9) (.tmp 184) rfl rfl g qn.vals rfl HV.out 120 _ hs (info43 _) rfl (qd_one4 _) ?_); intro w10 hs4 hg4)
              go_roundw
              case rel => exact ⟨k + 1, qn, by omega, by go_num, HS.out.symm, hs4, hbd.trans (grown_below hg4 hD hsz5)⟩
              case measure => simp [intOf]; omega
      by_cases hc2 : k < 48
      · skip
        have hmx : mixOf k q.b q.c q.d = (q.b ^^^ q.c) ^^^ q.d := by unfold mixOf; rw [if_neg hc0, if_neg hc1, if_pos hc2]
        have ha : atOf k = (3 * k + 5) % 16 := by unfold atOf; rw [if_neg hc0, if_neg hc1, if_pos hc2]
        have e0 : ((k : Int) / 16 == 0) = false := by simp; omega
        have e1 : ((k : Int) / 16 == 1) = false := by simp; omega
        have e2 : ((k : Int) / 16 == 2) = true := by simp; omega
        have hai : (3 * (k : Int) + 5) % 16 = ((atOf k : Nat) : Int) := by omega
        have hxi : (p : Int) + 4 * ((atOf k : Nat) : Int) = (x : Int) := by omega
        obtain ⟨z0, hz0⟩ : ∃ z, z = q.b ^^^ q.c := ⟨_, rfl⟩
        have fz0 : bits .xor .u32 (q.b.toNat : Int) (q.c.toNat : Int) = (z0.toNat : Int) := by rw [hz0]; exact w_xor _ _
        have fl : bits .xor .u32 (z0.toNat : Int) (q.d.toNat : Int) = ((mixOf k q.b q.c q.d).toNat : Int) := by rw [w_xor, hmx, hz0]
        clear hmx ha hx hat hz0
        generalize mixOf k q.b q.c q.d = mx at *
        go_wp2
        clear fz0 fl hxi e0 e1 e2 hai c0 c1 c2 c3
        obtain ⟨Y0, hY0⟩ : ∃ z, z = y0.toUInt32 := ⟨_, rfl⟩
        have u0 : IntKind.u32.wrap (y0.toNat : Int) = (Y0.toNat : Int) := by rw [hY0, ← u8_mod, IntKind.wrap_u32]
        obtain ⟨Y1, hY1⟩ : ∃ z, z = y1.toUInt32 := ⟨_, rfl⟩
        have u1 : IntKind.u32.wrap (y1.toNat : Int) = (Y1.toNat : Int) := by rw [hY1, ← u8_mod, IntKind.wrap_u32]
        obtain ⟨Y2, hY2⟩ : ∃ z, z = y2.toUInt32 := ⟨_, rfl⟩
        have u2 : IntKind.u32.wrap (y2.toNat : Int) = (Y2.toNat : Int) := by rw [hY2, ← u8_mod, IntKind.wrap_u32]
        obtain ⟨Y3, hY3⟩ : ∃ z, z = y3.toUInt32 := ⟨_, rfl⟩
        have u3 : IntKind.u32.wrap (y3.toNat : Int) = (Y3.toNat : Int) := by rw [hY3, ← u8_mod, IntKind.wrap_u32]
        obtain ⟨S1, hS1⟩ : ∃ z, z = Y1 <<< 8 := ⟨_, rfl⟩
        have g1 : IntKind.u32.wrap ((Y1.toNat : Int) * 256) = (S1.toNat : Int) := by rw [hS1, ← w_shl8, IntKind.wrap_u32]
        obtain ⟨S2, hS2⟩ : ∃ z, z = Y2 <<< 16 := ⟨_, rfl⟩
        have g2 : IntKind.u32.wrap ((Y2.toNat : Int) * 65536) = (S2.toNat : Int) := by rw [hS2, ← w_shl16, IntKind.wrap_u32]
        obtain ⟨S3, hS3⟩ : ∃ z, z = Y3 <<< 24 := ⟨_, rfl⟩
        have g3 : IntKind.u32.wrap ((Y3.toNat : Int) * 16777216) = (S3.toNat : Int) := by rw [hS3, ← w_shl24, IntKind.wrap_u32]
        obtain ⟨R1, hR1⟩ : ∃ z, z = Y0 ||| S1 := ⟨_, rfl⟩
        have r1 : bits .or .u32 (Y0.toNat : Int) (S1.toNat : Int) = (R1.toNat : Int) := by rw [hR1]; exact w_or _ _
        obtain ⟨R2, hR2⟩ : ∃ z, z = R1 ||| S2 := ⟨_, rfl⟩
        have r2 : bits .or .u32 (R1.toNat : Int) (S2.toNat : Int) = (R2.toNat : Int) := by rw [hR2]; exact w_or _ _
        have r3 : bits .or .u32 (R2.toNat : Int) (S3.toNat : Int) = ((leWord bs (atOf k)).toNat : Int) := by rw [hle, w_or R2 S3, hR2, hR1, hS1, hS2, hS3, hY0, hY1, hY2, hY3]
        clear hle hY0 hY1 hY2 hY3 hS1 hS2 hS3 hR1 hR2
        obtain ⟨A1, hA1⟩ : ∃ z, z = q.a + mx := ⟨_, rfl⟩
        obtain ⟨A2, hA2⟩ : ∃ z, z = A1 + sn := ⟨_, rfl⟩
        have q1 : ((q.a.toNat : Int) + (mx.toNat : Int)) % 4294967296 = (A1.toNat : Int) := by rw [hA1]; exact w_add _ _
        have q2 : ((A1.toNat : Int) + (sn.toNat : Int)) % 4294967296 = (A2.toNat : Int) := by rw [hA2]; exact w_add _ _
        have q1' : IntKind.u32.wrap ((q.a.toNat : Int) + (mx.toNat : Int)) = (A1.toNat : Int) := by rw [IntKind.wrap_u32]; exact q1
        have q2' : IntKind.u32.wrap ((A1.toNat : Int) + (sn.toNat : Int)) = (A2.toNat : Int) := by rw [IntKind.wrap_u32]; exact q2
        rw [← hA1, ← hA2] at HS
        clear hA1 hA2
        have x0 : (0 : Int) ≤ (x : Int) := by omega
        have x1 : (x : Int) < 1099511627773 := by omega
        have i1 : (x : Int) + 1 < (n : Int) := by omega
        have v1 : IntKind.i64.wrap ((x : Int) + 1) = (x : Int) + 1 := by rw [IntKind.wrap_i64]; omega
        have o1 : (0 : Int) ≤ (x : Int) + 1 := by omega
        have n1 : ((x : Int) + 1).toNat = x + 1 := by omega
        have i2 : (x : Int) + 2 < (n : Int) := by omega
        have v2 : IntKind.i64.wrap ((x : Int) + 2) = (x : Int) + 2 := by rw [IntKind.wrap_i64]; omega
        have o2 : (0 : Int) ≤ (x : Int) + 2 := by omega
        have n2 : ((x : Int) + 2).toNat = x + 2 := by omega
        have i3 : (x : Int) + 3 < (n : Int) := by omega
        have v3 : IntKind.i64.wrap ((x : Int) + 3) = (x : Int) + 3 := by rw [IntKind.wrap_i64]; omega
        have o3 : (0 : Int) ≤ (x : Int) + 3 := by omega
        have n3 : ((x : Int) + 3).toNat = x + 3 := by omega
        apply wp_region_once (D := [[], [], [0, 1], [0, 1, 2], [0, 1, 2, 3], [], [], [6], [5, 6, 7], [5, 6, 7, 8], [5, 6, 7, 8, 9], [5, 6, 7, 8, 9, 10], [0, 1, 2, 3, 4, 5, 6, 7, 8, 9, 10, 11], [], [], [14], [13, 14, 15], [13, 14, 15, 16], [13, 14, 15, 16, 17], [13, 14, 15, 16, 17, 18], [0, 1, 2, 3, 4, 5, 6, 7, 8, 9, 10, 11, 12, 13, 14, 15, 16, 17, 18, 19], [], [], [22], [21, 22, 23], [21, 22, 23, 24], [21, 22, 23, 24, 25], [21, 22, 23, 24, 25, 26], [0, 1, 2, 3, 4, 5, 6, 7, 8, 9, 10, 11, 12, 13, 14, 15, 16, 17, 18, 19, 20, 21, 22, 23, 24, 25, 26, 27], [0, 1, 2, 3, 4, 5, 6, 7, 8, 9, 10, 11, 12, 13, 14, 15, 16, 17, 18, 19, 20, 21, 22, 23, 24, 25, 26, 27, 28]]) (J := [[], [], [0, 1], [2], [3], [], [], [6], [5, 7], [8], [9], [10], [4, 11], [], [], [14], [13, 15], [16], [17], [18], [12, 19], [], [], [22], [21, 23], [24], [25], [26], [20, 27], [28]]) (Je := [29]) (Rs := [Is _, Is _, Is _, Is _, Is _, Is _, Is _, Is _, Is _, Is _, Is _, Is _, Is _, Is _, Is _, Is _, Is _, Is _, Is _, Is _, Is _, Is _, Is _, Is _, Is _, Is _, Is _, Is _, Is _, Is _])
        · kernel_rfl
        · kernel_rfl
        · kernel_rfl
        · kernel_rfl
        · kernel_rfl
        · kernel_rfl
        · intro u
          simp only [List.map_cons, List.map_nil, fillU, List.setIfInBounds_toArray, List.set_cons_zero, List.set_cons_succ, Nat.zero_add, Nat.reduceAdd]
          exact rfl
        · skip
          refine ⟨fun u W hb hd K hK => ?_, ?_⟩
          · clear hd
            go_simp
            apply hK
            · simp only [Act.put, List.setIfInBounds_toArray, List.set_cons_zero, List.set_cons_succ]
              exact rfl
            · exact Below.refl _ _
            · exact IsOut
          refine ⟨fun u W hb hd K hK => ?_, ?_⟩
          · clear hd
            go_simp
            apply hK
            · simp only [Act.put, List.setIfInBounds_toArray, List.set_cons_zero, List.set_cons_succ]
              exact rfl
            · exact Below.refl _ _
            · exact IsOut
          refine ⟨fun u W hb hd K hK => ?_, ?_⟩
          · simp only [Facts, nthR, Is, and_true] at hd
            simp only [hd] at hK ⊢
            clear hd
            go_simp
            apply hK
            · simp only [Act.put, List.setIfInBounds_toArray, List.set_cons_zero, List.set_cons_succ]
              exact rfl
            · exact Below.refl _ _
            · exact IsOut
          refine ⟨fun u W hb hd K hK => ?_, ?_⟩
          · simp only [Facts, nthR, Is, and_true] at hd
            simp only [hd] at hK ⊢
            clear hd
            go_simp
            apply hK
            · simp only [Act.put, List.setIfInBounds_toArray, List.set_cons_zero, List.set_cons_succ]
              exact rfl
            · exact Below.refl _ _
            · exact IsOut
          refine ⟨fun u W hb hd K hK => ?_, ?_⟩
          · simp only [Facts, nthR, Is, and_true] at hd
            simp only [hd] at hK ⊢
            clear hd
            go_simp
            apply hK
            · simp only [Act.put, List.setIfInBounds_toArray, List.set_cons_zero, List.set_cons_succ]
              exact rfl
            · exact Below.refl _ _
            · exact IsOut
          refine ⟨fun u W hb hd K hK => ?_, ?_⟩
          · clear hd
            go_simp
            apply hK
            · simp only [Act.put, List.setIfInBounds_toArray, List.set_cons_zero, List.set_cons_succ]
              exact rfl
            · exact Below.refl _ _
            · exact IsOut
          refine ⟨fun u W hb hd K hK => ?_, ?_⟩
          · clear hd
            go_simp
            apply hK
            · simp only [Act.put, List.setIfInBounds_toArray, List.set_cons_zero, List.set_cons_succ]
              exact rfl
            · exact Below.refl _ _
            · exact IsOut
          refine ⟨fun u W hb hd K hK => ?_, ?_⟩
          · simp only [Facts, nthR, Is, and_true] at hd
            simp only [hd] at hK ⊢
            clear hd
            go_simp
            apply hK
            · simp only [Act.put, List.setIfInBounds_toArray, List.set_cons_zero, List.set_cons_succ]
              exact rfl
            · exact Below.refl _ _
            · exact IsOut
          refine ⟨fun u W hb hd K hK => ?_, ?_⟩
          · simp only [Facts, nthR, Is, and_true] at hd
            simp only [hd] at hK ⊢
            clear hd
            go_simp
            apply hK
            · simp only [Act.put, List.setIfInBounds_toArray, List.set_cons_zero, List.set_cons_succ]
              exact rfl
            · exact Below.refl _ _
            · exact IsOut
          refine ⟨fun u W hb hd K hK => ?_, ?_⟩
          · simp only [Facts, nthR, Is, and_true] at hd
            simp only [hd] at hK ⊢
            clear hd
            go_simp
            apply hK
            · simp only [Act.put, List.setIfInBounds_toArray, List.set_cons_zero, List.set_cons_succ]
              exact rfl
            · exact Below.refl _ _
            · exact IsOut
          refine ⟨fun u W hb hd K hK => ?_, ?_⟩
          · simp only [Facts, nthR, Is, and_true] at hd
            simp only [hd] at hK ⊢
            clear hd
            go_simp
            apply hK
            · simp only [Act.put, List.setIfInBounds_toArray, List.set_cons_zero, List.set_cons_succ]
              exact rfl
            · exact Below.refl _ _
            · exact IsOut
          refine ⟨fun u W hb hd K hK => ?_, ?_⟩
          · simp only [Facts, nthR, Is, and_true] at hd
            simp only [hd] at hK ⊢
            clear hd
            go_simp
            apply hK
            · simp only [Act.put, List.setIfInBounds_toArray, List.set_cons_zero, List.set_cons_succ]
              exact rfl
            · exact Below.refl _ _
            · exact IsOut
          refine ⟨fun u W hb hd K hK => ?_, ?_⟩
          · simp only [Facts, nthR, Is, and_true] at hd
            simp only [hd] at hK ⊢
            clear hd
            go_simp
            apply hK
            · simp only [Act.put, List.setIfInBounds_toArray, List.set_cons_zero, List.set_cons_succ]
              exact rfl
            · exact Below.refl _ _
            · exact IsOut
          refine ⟨fun u W hb hd K hK => ?_, ?_⟩
          · clear hd
            go_simp
            apply hK
            · simp only [Act.put, List.setIfInBounds_toArray, List.set_cons_zero, List.set_cons_succ]
              exact rfl
            · exact Below.refl _ _
            · exact IsOut
          refine ⟨fun u W hb hd K hK => ?_, ?_⟩
          · clear hd
            go_simp
            apply hK
            · simp only [Act.put, List.setIfInBounds_toArray, List.set_cons_zero, List.set_cons_succ]
              exact rfl
            · exact Below.refl _ _
            · exact IsOut
          refine ⟨fun u W hb hd K hK => ?_, ?_⟩
          · simp only [Facts, nthR, Is, and_true] at hd
            simp only [hd] at hK ⊢
            clear hd
            go_simp
            apply hK
            · simp only [Act.put, List.setIfInBounds_toArray, List.set_cons_zero, List.set_cons_succ]
              exact rfl
            · exact Below.refl _ _
            · exact IsOut
          refine ⟨fun u W hb hd K hK => ?_, ?_⟩
          · simp only [Facts, nthR, Is, and_true] at hd
            simp only [hd] at hK ⊢
            clear hd
            go_simp
            apply hK
            · simp only [Act.put, List.setIfInBounds_toArray, List.set_cons_zero, List.set_cons_succ]
              exact rfl
            · exact Below.refl _ _
            · exact IsOut
          refine ⟨fun u W hb hd K hK => ?_, ?_⟩
          · simp only [Facts, nthR, Is, and_true] at hd
            simp only [hd] at hK ⊢
            clear hd
            go_simp
            apply hK
            · simp only [Act.put, List.setIfInBounds_toArray, List.set_cons_zero, List.set_cons_succ]
              exact rfl
            · exact Below.refl _ _
            · exact IsOut
          refine ⟨fun u W hb hd K hK => ?_, ?_⟩
          · simp only [Facts, nthR, Is, and_true] at hd
            simp only [hd] at hK ⊢
            clear hd
            go_simp
            apply hK
            · simp only [Act.put, List.setIfInBounds_toArray, List.set_cons_zero, List.set_cons_succ]
              exact rfl
            · exact Below.refl _ _
            · exact IsOut
          refine ⟨fun u W hb hd K hK => ?_, ?_⟩
          · simp only [Facts, nthR, Is, and_true] at hd
            simp only [hd] at hK ⊢
            clear hd
            go_simp
            apply hK
            · simp only [Act.put, List.setIfInBounds_toArray, List.set_cons_zero, List.set_cons_succ]
              exact rfl
            · exact Below.refl _ _
            · exact IsOut
          refine ⟨fun u W hb hd K hK => ?_, ?_⟩
          · simp only [Facts, nthR, Is, and_true] at hd
            simp only [hd] at hK ⊢
            clear hd
            go_simp
            apply hK
            · simp only [Act.put, List.setIfInBounds_toArray, List.set_cons_zero, List.set_cons_succ]
              exact rfl
            · exact Below.refl _ _
            · exact IsOut
          refine ⟨fun u W hb hd K hK => ?_, ?_⟩
          · clear hd
            go_simp
            apply hK
            · simp only [Act.put, List.setIfInBounds_toArray, List.set_cons_zero, List.set_cons_succ]
              exact rfl
            · exact Below.refl _ _
            · exact IsOut
          refine ⟨fun u W hb hd K hK => ?_, ?_⟩
          · clear hd
            go_simp
            apply hK
            · simp only [Act.put, List.setIfInBounds_toArray, List.set_cons_zero, List.set_cons_succ]
              exact rfl
            · exact Below.refl _ _
            · exact IsOut
          refine ⟨fun u W hb hd K hK => ?_, ?_⟩
          · simp only [Facts, nthR, Is, and_true] at hd
            simp only [hd] at hK ⊢
            clear hd
            go_simp
            apply hK
            · simp only [Act.put, List.setIfInBounds_toArray, List.set_cons_zero, List.set_cons_succ]
              exact rfl
            · exact Below.refl _ _
            · exact IsOut
          refine ⟨fun u W hb hd K hK => ?_, ?_⟩
          · simp only [Facts, nthR, Is, and_true] at hd
            simp only [hd] at hK ⊢
            clear hd
            go_simp
            apply hK
            · simp only [Act.put, List.setIfInBounds_toArray, List.set_cons_zero, List.set_cons_succ]
              exact rfl
            · exact Below.refl _ _
            · exact IsOut
          refine ⟨fun u W hb hd K hK => ?_, ?_⟩
          · simp only [Facts, nthR, Is, and_true] at hd
            simp only [hd] at hK ⊢
            clear hd
            go_simp
            apply hK
            · simp only [Act.put, List.setIfInBounds_toArray, List.set_cons_zero, List.set_cons_succ]
              exact rfl
            · exact Below.refl _ _
            · exact IsOut
          refine ⟨fun u W hb hd K hK => ?_, ?_⟩
          · simp only [Facts, nthR, Is, and_true] at hd
            simp only [hd] at hK ⊢
            clear hd
            go_simp
            apply hK
            · simp only [Act.put, List.setIfInBounds_toArray, List.set_cons_zero, List.set_cons_succ]
              exact rfl
            · exact Below.refl _ _
            · exact IsOut
          refine ⟨fun u W hb hd K hK => ?_, ?_⟩
          · simp only [Facts, nthR, Is, and_true] at hd
            simp only [hd] at hK ⊢
            clear hd
            go_simp
            apply hK
            · simp only [Act.put, List.setIfInBounds_toArray, List.set_cons_zero, List.set_cons_succ]
              exact rfl
            · exact Below.refl _ _
            · exact IsOut
          refine ⟨fun u W hb hd K hK => ?_, ?_⟩
          · simp only [Facts, nthR, Is, and_true] at hd
            simp only [hd] at hK ⊢
            clear hd
            go_simp
            apply hK
            · simp only [Act.put, List.setIfInBounds_toArray, List.set_cons_zero, List.set_cons_succ]
              exact rfl
            · exact Below.refl _ _
            · exact IsOut
          refine ⟨fun u W hb hd K hK => ?_, ?_⟩
          · simp only [Facts, nthR, Is, and_true] at hd
            simp only [hd] at hK ⊢
            clear hd
            go_simp
            apply hK
            · simp only [Act.put, List.setIfInBounds_toArray, List.set_cons_zero, List.set_cons_succ]
              exact rfl
            · exact Below.refl _ _
            · exact IsOut
          exact trivial
        · exact (.is (.is (.is (.is (.is (.is (.is (.is (.is (.is (.is (.is (.is (.is (.is (.is (.is (.is (.is (.is (.is (.is (.is (.is (.is (.is (.is (.is (.is (.is .nil))))))))))))))))))))))))))))))
        · intro u W hb29 hd
          simp only [Facts, nthR, Is, and_true] at hd
          simp only [hd]
          have hl0 := hs.lt
          replace hs := hs.below hb29 hgl
          replace hbd := hbd.trans (hb29.mono hsz2)
          have hgl2 := hs.lt
          have hsz3 : D ≤ W.heap.size := Nat.le_trans hsz2 hb29.size
          clear hd hX hb29 hsz2 hgl hl0 u0 u1 u2 u3 g1 g2 g3 r1 r2 r3 x0 x1 i1 v1 o1 n1 i2 v2 o2 n2 i3 v3 o3 n3 b0 b1 b2 b3
          generalize leWord bs (atOf k) = wd at *
          obtain ⟨X, hA3⟩ : ∃ z, z = A2 + wd := ⟨_, rfl⟩
          have q3 : ((A2.toNat : Int) + (wd.toNat : Int)) % 4294967296 = (X.toNat : Int) := by rw [hA3]; exact w_add _ _
          have q3' : IntKind.u32.wrap ((A2.toNat : Int) + (wd.toNat : Int)) = (X.toNat : Int) := by rw [IntKind.wrap_u32]; exact q3
          rw [← hA3] at HS
          clear hA3
          have hX2 := fun (V : World) (h : Below W.heap.size W V) => (show V.cell? ⟨g, 0, none⟩ = some (.int .u32 q.a.toNat) ∧ V.cell? ⟨gk, k, none⟩ = some (.int .u32 sn.toNat) from
            ⟨((hs.below h hgl2).cell 0), ((hbd.trans (h.mono hsz3)).cell (p := ⟨gk, k, none⟩) hgk).trans hkk⟩)
          have k0 : (0 : Int) ≤ (k : Int) := by omega
          have k1 : (k : Int) < 64 := by omega
          go_wp2
          apply wp_region_once (D := [[], [0], [], [0, 1, 2], [], [4], [4, 5], [0, 1, 2, 3, 4, 5, 6], [], [0, 1, 2, 3, 4, 5, 6, 7, 8], [0, 1, 2, 3, 4, 5, 6, 7, 8, 9]]) (J := [[], [0], [], [1, 2], [], [4], [5], [3, 6], [], [7, 8], [9]]) (Je := [10]) (Rs := [Is _, Is _, Is _, Is _, Is _, Is _, Is _, Is _, Is _, Is _, Is _])
          · kernel_rfl
          · kernel_rfl
          · kernel_rfl
          · kernel_rfl
          · kernel_rfl
          · kernel_rfl
          · intro u
            simp only [List.map_cons, List.map_nil, fillU, List.setIfInBounds_toArray, List.set_cons_zero, List.set_cons_succ, Nat.zero_add, Nat.reduceAdd]
            exact rfl
          · skip
            refine ⟨fun u W hb hd K hK => ?_, ?_⟩
            · clear hd
              go_simp
              apply hK
              · simp only [Act.put, List.setIfInBounds_toArray, List.set_cons_zero, List.set_cons_succ]
                exact rfl
              · exact Below.refl _ _
              · exact IsOut
            refine ⟨fun u W hb hd K hK => ?_, ?_⟩
            · simp only [Facts, nthR, Is, and_true] at hd
              simp only [hd] at hK ⊢
              clear hd
              go_simp
              apply hK
              · simp only [Act.put, List.setIfInBounds_toArray, List.set_cons_zero, List.set_cons_succ]
                exact rfl
              · exact Below.refl _ _
              · exact IsOut
            refine ⟨fun u W hb hd K hK => ?_, ?_⟩
            · clear hd
              go_simp
              apply hK
              · simp only [Act.put, List.setIfInBounds_toArray, List.set_cons_zero, List.set_cons_succ]
                exact rfl
              · exact Below.refl _ _
              · exact IsOut
            refine ⟨fun u W hb hd K hK => ?_, ?_⟩
            · simp only [Facts, nthR, Is, and_true] at hd
              simp only [hd] at hK ⊢
              clear hd
              go_simp
              apply hK
              · simp only [Act.put, List.setIfInBounds_toArray, List.set_cons_zero, List.set_cons_succ]
                exact rfl
              · exact Below.refl _ _
              · exact IsOut
            refine ⟨fun u W hb hd K hK => ?_, ?_⟩
            · clear hd
              go_simp
              apply hK
              · simp only [Act.put, List.setIfInBounds_toArray, List.set_cons_zero, List.set_cons_succ]
                exact rfl
              · exact Below.refl _ _
              · exact IsOut
            refine ⟨fun u W hb hd K hK => ?_, ?_⟩
            · simp only [Facts, nthR, Is, and_true] at hd
              simp only [hd] at hK ⊢
              clear hd
              go_simp
              apply hK
              · simp only [Act.put, List.setIfInBounds_toArray, List.set_cons_zero, List.set_cons_succ]
                exact rfl
              · exact Below.refl _ _
              · exact IsOut
            refine ⟨fun u W hb hd K hK => ?_, ?_⟩
            · simp only [Facts, nthR, Is, and_true] at hd
              simp only [hd] at hK ⊢
              clear hd
              go_simp
              apply hK
              · simp only [Act.put, List.setIfInBounds_toArray, List.set_cons_zero, List.set_cons_succ]
                exact rfl
              · exact Below.refl _ _
              · exact IsOut
            refine ⟨fun u W hb hd K hK => ?_, ?_⟩
            · simp only [Facts, nthR, Is, and_true] at hd
              simp only [hd] at hK ⊢
              clear hd
              go_simp
              apply hK
              · simp only [Act.put, List.setIfInBounds_toArray, List.set_cons_zero, List.set_cons_succ]
                exact rfl
              · exact Below.refl _ _
              · exact IsOut
            refine ⟨fun u W hb hd K hK => ?_, ?_⟩
            · clear hd
              go_simp
              apply hK
              · simp only [Act.put, List.setIfInBounds_toArray, List.set_cons_zero, List.set_cons_succ]
                exact rfl
              · exact Below.refl _ _
              · exact IsOut
            refine ⟨fun u W hb hd K hK => ?_, ?_⟩
            · simp only [Facts, nthR, Is, and_true] at hd
              simp only [hd] at hK ⊢
              clear hd
              go_simp
              apply hK
              · simp only [Act.put, List.setIfInBounds_toArray, List.set_cons_zero, List.set_cons_succ]
                exact rfl
              · exact Below.refl _ _
              · exact IsOut
            refine ⟨fun u W hb hd K hK => ?_, ?_⟩
            · simp only [Facts, nthR, Is, and_true] at hd
              simp only [hd] at hK ⊢
              clear hd
              go_simp
              apply hK
              · simp only [Act.put, List.setIfInBounds_toArray, List.set_cons_zero, List.set_cons_succ]
                exact rfl
              · exact Below.refl _ _
              · exact IsOut
            exact trivial
          · exact (.is (.is (.is (.is (.is (.is (.is (.is (.is (.is (.is .nil)))))))))))
          · intro u W hb30 hd
            simp only [Facts, nthR, Is, and_true] at hd
            simp only [hd]
            replace hs := hs.below hb30 hgl2
            replace hbd := hbd.trans (hb30.mono hsz3)
            have hgl4 := hs.lt
            have hsz4 : D ≤ W.heap.size := Nat.le_trans hsz3 hb30.size
            clear hd hX2 hb30 hsz3 hgl2 q1 q2 q3 q1' q2' q3'
            obtain ⟨L1, hL1⟩ : ∃ z, z = X <<< UInt32.ofNat sh := ⟨_, rfl⟩
            obtain ⟨L2, hL2⟩ : ∃ z, z = X >>> UInt32.ofNat (32 - sh) := ⟨_, rfl⟩
            have w1 : ((X.toNat : Int) * 2 ^ sh) % 4294967296 = (L1.toNat : Int) := by rw [hL1]; exact w_shl X sh hsh.2
            have w1' : IntKind.u32.wrap ((X.toNat : Int) * 2 ^ sh) = (L1.toNat : Int) := by rw [IntKind.wrap_u32]; exact w1
            obtain ⟨sc, hsc⟩ : ∃ z, z = 32 - sh := ⟨_, rfl⟩
            have w2 : (X.toNat : Int) / 2 ^ sc = (L2.toNat : Int) := by rw [hL2, hsc]; exact w_shr X (32 - sh) (by omega)
            have w3 : bits .or .u32 (L1.toNat : Int) (L2.toNat : Int) = ((rotl sh X).toNat : Int) := by rw [w_or, hL1, hL2]; rfl
            clear hL1 hL2
            have s0 : ¬ ((sh : Int) < 0) := by omega
            have s1 : ((32 : Int) - sh) = (sc : Int) := by omega
            have s2 : ¬ ((sc : Int) < 0) := by omega
            have s3 : min sh 32 = sh := by omega
            have s4 : min sc 32 = sc := by omega
            have s7 : IntKind.i64.wrap (sc : Int) = (sc : Int) := by rw [IntKind.wrap_i64]; omega
            have s8 : (sc : Int) < 32 := by omega
            have s9 : (0 : Int) ≤ (sc : Int) := by omega
            clear hsc
            have s5 : (sh : Int) < 32 := by omega
            have s6 : (0 : Int) ≤ (sh : Int) := by omega
            go_wp2
            apply wp_region_once_tail (m := 10) (Z := []) (D := [[], [], [1], [0, 1, 2], [], [], [1, 2, 5], [1, 2, 5, 6], [1, 2, 4, 5, 6, 7], [0, 1, 2, 3, 4, 5, 6, 7, 8], [0, 1, 2, 3, 4, 5, 6, 7, 8, 9]]) (J := [[], [], [1], [0, 2], [], [], [5], [6], [4, 7], [3, 8]]) (Je := [9]) (Rs := [Is _, Is _, Is _, Is _, Is _, Is _, Is _, Is _, Is _, Is _])
            · kernel_rfl
            · kernel_rfl
            · kernel_rfl
            · kernel_rfl
            · kernel_rfl
            · kernel_rfl
            · kernel_rfl
            · exact fun h => absurd rfl h
            · intro u
              simp only [List.take_succ_cons, List.take_zero, List.map_cons, List.map_nil, fillU, List.setIfInBounds_toArray, List.set_cons_zero, List.set_cons_succ, Nat.zero_add, Nat.reduceAdd]
              exact rfl
            · simp only [List.take_succ_cons, List.take_zero]
              refine ⟨fun u W hb hd K hK => ?_, ?_⟩
              · clear hd
                go_simp
                apply hK
                · simp only [Act.put, List.setIfInBounds_toArray, List.set_cons_zero, List.set_cons_succ]
                  exact rfl
                · exact Below.refl _ _
                · exact IsOut
              refine ⟨fun u W hb hd K hK => ?_, ?_⟩
              · clear hd
                go_simp
                apply hK
                · simp only [Act.put, List.setIfInBounds_toArray, List.set_cons_zero, List.set_cons_succ]
                  exact rfl
                · exact Below.refl _ _
                · exact IsOut
              refine ⟨fun u W hb hd K hK => ?_, ?_⟩
              · simp only [Facts, nthR, Is, and_true] at hd
                simp only [hd] at hK ⊢
                clear hd
                go_simp
                refine (hTU W).mono ?_
                rintro e wy ⟨rfl, hby⟩
                exact hK _ _ _ rfl hby IsOut
              refine ⟨fun u W hb hd K hK => ?_, ?_⟩
              · simp only [Facts, nthR, Is, and_true] at hd
                simp only [hd] at hK ⊢
                clear hd
                go_simp
                apply hK
                · simp only [Act.put, List.setIfInBounds_toArray, List.set_cons_zero, List.set_cons_succ]
                  exact rfl
                · exact Below.refl _ _
                · exact IsOut
              refine ⟨fun u W hb hd K hK => ?_, ?_⟩
              · clear hd
                go_simp
                apply hK
                · simp only [Act.put, List.setIfInBounds_toArray, List.set_cons_zero, List.set_cons_succ]
                  exact rfl
                · exact Below.refl _ _
                · exact IsOut
              refine ⟨fun u W hb hd K hK => ?_, ?_⟩
              · clear hd
                go_simp
                apply hK
                · simp only [Act.put, List.setIfInBounds_toArray, List.set_cons_zero, List.set_cons_succ]
                  exact rfl
                · exact Below.refl _ _
                · exact IsOut
              refine ⟨fun u W hb hd K hK => ?_, ?_⟩
              · simp only [Facts, nthR, Is, and_true] at hd
                simp only [hd] at hK ⊢
                clear hd
                go_simp
                refine (hTU W).mono ?_
                rintro e wy ⟨rfl, hby⟩
                exact hK _ _ _ rfl hby IsOut
              refine ⟨fun u W hb hd K hK => ?_, ?_⟩
              · simp only [Facts, nthR, Is, and_true] at hd
                simp only [hd] at hK ⊢
                clear hd
                go_simp
                apply hK
                · simp only [Act.put, List.setIfInBounds_toArray, List.set_cons_zero, List.set_cons_succ]
                  exact rfl
                · exact Below.refl _ _
                · exact IsOut
              refine ⟨fun u W hb hd K hK => ?_, ?_⟩
              · simp only [Facts, nthR, Is, and_true] at hd
                simp only [hd] at hK ⊢
                clear hd
                go_simp
                apply hK
                · simp only [Act.put, List.setIfInBounds_toArray, List.set_cons_zero, List.set_cons_succ]
                  exact rfl
                · exact Below.refl _ _
                · exact IsOut
              refine ⟨fun u W hb hd K hK => ?_, ?_⟩
              · simp only [Facts, nthR, Is, and_true] at hd
                simp only [hd] at hK ⊢
                clear hd
                go_simp
                apply hK
                · simp only [Act.put, List.setIfInBounds_toArray, List.set_cons_zero, List.set_cons_succ]
                  exact rfl
                · exact Below.refl _ _
                · exact IsOut
              exact trivial
            · skip
              exact trivial
            · exact (.is (.is (.is (.is (.is (.is (.is (.is (.is (.is .nil))))))))))
            · intro u W hb31 hd
              simp only [List.drop_succ_cons, List.drop_zero]
              simp only [Facts, nthR, Is, and_true] at hd
              simp only [hd]
              replace hs := hs.below hb31 hgl4
              replace hbd := hbd.trans (hb31.mono hsz4)
              have hsz5 : D ≤ W.heap.size := Nat.le_trans hsz4 hb31.size
              clear hd hb31 hsz4 hgl4 w1 w1' w2 w3 s0 s1 s2 s3 s4 s5 s6 s7 s8 s9 hTU hsh
              generalize rotl sh X = r at *
              have c1 : World.cell? _ ⟨g, 1, none⟩ = some (.int .u32 q.b.toNat) := hs.cell 1
              have c2 : World.cell? _ ⟨g, 2, none⟩ = some (.int .u32 q.c.toNat) := hs.cell 2
              have c3 : World.cell? _ ⟨g, 3, none⟩ = some (.int .u32 q.d.toNat) := hs.cell 3
              obtain ⟨B1, hB1⟩ : ∃ z, z = q.b + r := ⟨_, rfl⟩
              have q6 : ((q.b.toNat : Int) + (r.toNat : Int)) % 4294967296 = (B1.toNat : Int) := by rw [hB1]; exact w_add _ _
              have q6' : IntKind.u32.wrap ((q.b.toNat : Int) + (r.toNat : Int)) = (B1.toNat : Int) := by rw [IntKind.wrap_u32]; exact q6
              rw [← hB1] at HS
              clear hB1
              obtain ⟨qn, hqn⟩ : ∃ qn : Qd, qn = ⟨q.d, B1, q.b, q.c⟩ := ⟨_, rfl⟩
              have HV : Hid (Value.agg #[.int .u32 q.d.toNat, .int .u32 B1.toNat, .int .u32 q.b.toNat, .int .u32 q.c.toNat] = .agg qn.vals.toArray) := Lib.hid (by rw [hqn]; rfl)
              rw [← hqn] at HS
              clear hqn
              go_wp2_with ((with_reducible refine (?_ : wpList _ _ _ (Oper.mk none (.store 120 _ _) _ _ _ _ :: _) _ _)); go_loud (refine wpList_store_blk rfl 120 (.tmp 9) (.tmp 184) rfl rfl g qn.vals rfl HV.out 120 _ hs (info43 _) rfl (qd_one4 _) ?_); intro w10 hs4 hg4)
              go_roundw
              case rel => exact ⟨k + 1, qn, by omega, by go_num, HS.out.symm, hs4, hbd.trans (grown_below hg4 hD hsz5)⟩
              case measure => simp [intOf]; omega
      have hmx : mixOf k q.b q.c q.d = q.c ^^^ (q.b ||| ~~~q.d) := by unfold mixOf; rw [if_neg hc0, if_neg hc1, if_neg hc2]
      have ha : atOf k = 7 * k % 16 := by unfold atOf; rw [if_neg hc0, if_neg hc1, if_neg hc2]
      have e0 : ((k : Int) / 16 == 0) = false := by simp; omega
      have e1 : ((k : Int) / 16 == 1) = false := by simp; omega
      have e2 : ((k : Int) / 16 == 2) = false := by simp; omega
      have e3 : ((k : Int) / 16 == 3) = true := by simp; omega
      have hai : (7 * (k : Int)) % 16 = ((atOf k : Nat) : Int) := by omega
      have hxi : (p : Int) + 4 * ((atOf k : Nat) : Int) = (x : Int) := by omega
      obtain ⟨z1, hz1⟩ : ∃ z, z = ~~~q.d := ⟨_, rfl⟩
      have fz1 : bits .xor .u32 IntKind.u32.max (q.d.toNat : Int) = (z1.toNat : Int) := by rw [hz1]; exact w_not _
      obtain ⟨z2, hz2⟩ : ∃ z, z = q.b ||| z1 := ⟨_, rfl⟩
      have fz2 : bits .or .u32 (q.b.toNat : Int) (z1.toNat : Int) = (z2.toNat : Int) := by rw [hz2]; exact w_or _ _
      have fl : bits .xor .u32 (q.c.toNat : Int) (z2.toNat : Int) = ((mixOf k q.b q.c q.d).toNat : Int) := by rw [w_xor, hmx, hz2, hz1]
      clear hmx ha hx hat hz1 hz2
      generalize mixOf k q.b q.c q.d = mx at *
      go_wp2
      clear fz1 fz2 fl hxi e0 e1 e2 e3 hai c0 c1 c2 c3
      obtain ⟨Y0, hY0⟩ : ∃ z, z = y0.toUInt32 := ⟨_, rfl⟩
      have u0 : IntKind.u32.wrap (y0.toNat : Int) = (Y0.toNat : Int) := by rw [hY0, ← u8_mod, IntKind.wrap_u32]
      obtain ⟨Y1, hY1⟩ : ∃ z, z = y1.toUInt32 := ⟨_, rfl⟩
      have u1 : IntKind.u32.wrap (y1.toNat : Int) = (Y1.toNat : Int) := by rw [hY1, ← u8_mod, IntKind.wrap_u32]
      obtain ⟨Y2, hY2⟩ : ∃ z, z = y2.toUInt32 := ⟨_, rfl⟩
      have u2 : IntKind.u32.wrap (y2.toNat : Int) = (Y2.toNat : Int) := by rw [hY2, ← u8_mod, IntKind.wrap_u32]
      obtain ⟨Y3, hY3⟩ : ∃ z, z = y3.toUInt32 := ⟨_, rfl⟩
      have u3 : IntKind.u32.wrap (y3.toNat : Int) = (Y3.toNat : Int) := by rw [hY3, ← u8_mod, IntKind.wrap_u32]
      obtain ⟨S1, hS1⟩ : ∃ z, z = Y1 <<< 8 := ⟨_, rfl⟩
      have g1 : IntKind.u32.wrap ((Y1.toNat : Int) * 256) = (S1.toNat : Int) := by rw [hS1, ← w_shl8, IntKind.wrap_u32]
      obtain ⟨S2, hS2⟩ : ∃ z, z = Y2 <<< 16 := ⟨_, rfl⟩
      have g2 : IntKind.u32.wrap ((Y2.toNat : Int) * 65536) = (S2.toNat : Int) := by rw [hS2, ← w_shl16, IntKind.wrap_u32]
      obtain ⟨S3, hS3⟩ : ∃ z, z = Y3 <<< 24 := ⟨_, rfl⟩
      have g3 : IntKind.u32.wrap ((Y3.toNat : Int) * 16777216) = (S3.toNat : Int) := by rw [hS3, ← w_shl24, IntKind.wrap_u32]
      obtain ⟨R1, hR1⟩ : ∃ z, z = Y0 ||| S1 := ⟨_, rfl⟩
      have r1 : bits .or .u32 (Y0.toNat : Int) (S1.toNat : Int) = (R1.toNat : Int) := by rw [hR1]; exact w_or _ _
      obtain ⟨R2, hR2⟩ : ∃ z, z = R1 ||| S2 := ⟨_, rfl⟩
      have r2 : bits .or .u32 (R1.toNat : Int) (S2.toNat : Int) = (R2.toNat : Int) := by rw [hR2]; exact w_or _ _
      have r3 : bits .or .u32 (R2.toNat : Int) (S3.toNat : Int) = ((leWord bs (atOf k)).toNat : Int) := by rw [hle, w_or R2 S3, hR2, hR1, hS1, hS2, hS3, hY0, hY1, hY2, hY3]
      clear hle hY0 hY1 hY2 hY3 hS1 hS2 hS3 hR1 hR2
      obtain ⟨A1, hA1⟩ : ∃ z, z = q.a + mx := ⟨_, rfl⟩
      obtain ⟨A2, hA2⟩ : ∃ z, z = A1 + sn := ⟨_, rfl⟩
      have q1 : ((q.a.toNat : Int) + (mx.toNat : Int)) % 4294967296 = (A1.toNat : Int) := by rw [hA1]; exact w_add _ _
      have q2 : ((A1.toNat : Int) + (sn.toNat : Int)) % 4294967296 = (A2.toNat : Int) := by rw [hA2]; exact w_add _ _
      have q1' : IntKind.u32.wrap ((q.a.toNat : Int) + (mx.toNat : Int)) = (A1.toNat : Int) := by rw [IntKind.wrap_u32]; exact q1
      have q2' : IntKind.u32.wrap ((A1.toNat : Int) + (sn.toNat : Int)) = (A2.toNat : Int) := by rw [IntKind.wrap_u32]; exact q2
      rw [← hA1, ← hA2] at HS
      clear hA1 hA2
      have x0 : (0 : Int) ≤ (x : Int) := by omega
      have x1 : (x : Int) < 1099511627773 := by omega
      have i1 : (x : Int) + 1 < (n : Int) := by omega
      have v1 : IntKind.i64.wrap ((x : Int) + 1) = (x : Int) + 1 := by rw [IntKind.wrap_i64]; omega
      have o1 : (0 : Int) ≤ (x : Int) + 1 := by omega
      have n1 : ((x : Int) + 1).toNat = x + 1 := by omega
      have i2 : (x : Int) + 2 < (n : Int) := by omega
      have v2 : IntKind.i64.wrap ((x : Int) + 2) = (x : Int) + 2 := by rw [IntKind.wrap_i64]; omega
      have o2 : (0 : Int) ≤ (x : Int) + 2 := by omega
      have n2 : ((x : Int) + 2).toNat = x + 2 := by omega
      have i3 : (x : Int) + 3 < (n : Int) := by omega
      have v3 : IntKind.i64.wrap ((x : Int) + 3) = (x : Int) + 3 := by rw [IntKind.wrap_i64]; omega
      have o3 : (0 : Int) ≤ (x : Int) + 3 := by omega
      have n3 : ((x : Int) + 3).toNat = x + 3 := by omega
      apply wp_region_once (D := [[], [], [0, 1], [0, 1, 2], [0, 1, 2, 3], [], [], [6], [5, 6, 7], [5, 6, 7, 8], [5, 6, 7, 8, 9], [5, 6, 7, 8, 9, 10], [0, 1, 2, 3, 4, 5, 6, 7, 8, 9, 10, 11], [], [], [14], [13, 14, 15], [13, 14, 15, 16], [13, 14, 15, 16, 17], [13, 14, 15, 16, 17, 18], [0, 1, 2, 3, 4, 5, 6, 7, 8, 9, 10, 11, 12, 13, 14, 15, 16, 17, 18, 19], [], [], [22], [21, 22, 23], [21, 22, 23, 24], [21, 22, 23, 24, 25], [21, 22, 23, 24, 25, 26], [0, 1, 2, 3, 4, 5, 6, 7, 8, 9, 10, 11, 12, 13, 14, 15, 16, 17, 18, 19, 20, 21, 22, 23, 24, 25, 26, 27], [0, 1, 2, 3, 4, 5, 6, 7, 8, 9, 10, 11, 12, 13, 14, 15, 16, 17, 18, 19, 20, 21, 22, 23, 24, 25, 26, 27, 28]]) (J := [[], [], [0, 1], [2], [3], [], [], [6], [5, 7], [8], [9], [10], [4, 11], [], [], [14], [13, 15], [16], [17], [18], [12, 19], [], [], [22], [21, 23], [24], [25], [26], [20, 27], [28]]) (Je := [29]) (Rs := [Is _, Is _, Is _, Is _, Is _, Is _, Is _, Is _, Is _, Is _, Is _, Is _, Is _, Is _, Is _, Is _, Is _, Is _, Is _, Is _, Is _, Is _, Is _, Is _, Is _, Is _, Is _, Is _, Is _, Is _])
      · kernel_rfl
      · kernel_rfl
      · kernel_rfl
      · kernel_rfl
      · kernel_rfl
      · kernel_rfl
      · intro u
        simp only [List.map_cons, List.map_nil, fillU, List.setIfInBounds_toArray, List.set_cons_zero, List.set_cons_succ, Nat.zero_add, Nat.reduceAdd]
        exact rfl
      · skip
        refine ⟨fun u W hb hd K hK => ?_, ?_⟩
        · clear hd
          go_simp
          apply hK
          · simp only [Act.put, List.setIfInBounds_toArray, List.set_cons_zero, List.set_cons_succ]
            exact rfl
          · exact Below.refl _ _
          · exact IsOut
        refine ⟨fun u W hb hd K hK => ?_, ?_⟩
        · clear hd
          go_simp
          apply hK
          · simp only [Act.put, List.setIfInBounds_toArray, List.set_cons_zero, List.set_cons_succ]
            exact rfl
          · exact Below.refl _ _
          · exact IsOut
        refine ⟨fun u W hb hd K hK => ?_, ?_⟩
        · simp only [Facts, nthR, Is, and_true] at hd
          simp only [hd] at hK ⊢
          clear hd
          go_simp
          apply hK
          · simp only [Act.put, List.setIfInBounds_toArray, List.set_cons_zero, List.set_cons_succ]
            exact rfl
          · exact Below.refl _ _
          · exact IsOut
        refine ⟨fun u W hb hd K hK => ?_, ?_⟩
        · simp only [Facts, nthR, Is, and_true] at hd
          simp only [hd] at hK ⊢
          clear hd
          go_simp
          apply hK
          · simp only [Act.put, List.setIfInBounds_toArray, List.set_cons_zero, List.set_cons_succ]
            exact rfl
          · exact Below.refl _ _
          · exact IsOut
        refine ⟨fun u W hb hd K hK => ?_, ?_⟩
        · simp only [Facts, nthR, Is, and_true] at hd
          simp only [hd] at hK ⊢
          clear hd
          go_simp
          apply hK
          · simp only [Act.put, List.setIfInBounds_toArray, List.set_cons_zero, List.set_cons_succ]
            exact rfl
          · exact Below.refl _ _
          · exact IsOut
        refine ⟨fun u W hb hd K hK => ?_, ?_⟩
        · clear hd
          go_simp
          apply hK
          · simp only [Act.put, List.setIfInBounds_toArray, List.set_cons_zero, List.set_cons_succ]
            exact rfl
          · exact Below.refl _ _
          · exact IsOut
        refine ⟨fun u W hb hd K hK => ?_, ?_⟩
        · clear hd
          go_simp
          apply hK
          · simp only [Act.put, List.setIfInBounds_toArray, List.set_cons_zero, List.set_cons_succ]
            exact rfl
          · exact Below.refl _ _
          · exact IsOut
        refine ⟨fun u W hb hd K hK => ?_, ?_⟩
        · simp only [Facts, nthR, Is, and_true] at hd
          simp only [hd] at hK ⊢
          clear hd
          go_simp
          apply hK
          · simp only [Act.put, List.setIfInBounds_toArray, List.set_cons_zero, List.set_cons_succ]
            exact rfl
          · exact Below.refl _ _
          · exact IsOut
        refine ⟨fun u W hb hd K hK => ?_, ?_⟩
        · simp only [Facts, nthR, Is, and_true] at hd
          simp only [hd] at hK ⊢
          clear hd
          go_simp
          apply hK
          · simp only [Act.put, List.setIfInBounds_toArray, List.set_cons_zero, List.set_cons_succ]
            exact rfl
          · exact Below.refl _ _
          · exact IsOut
        refine ⟨fun u W hb hd K hK => ?_, ?_⟩
        · simp only [Facts, nthR, Is, and_true] at hd
          simp only [hd] at hK ⊢
          clear hd
          go_simp
          apply hK
          · simp only [Act.put, List.setIfInBounds_toArray, List.set_cons_zero, List.set_cons_succ]
            exact rfl
          · exact Below.refl _ _
          · exact IsOut
        refine ⟨fun u W hb hd K hK => ?_, ?_⟩
        · simp only [Facts, nthR, Is, and_true] at hd
          simp only [hd] at hK ⊢
          clear hd
          go_simp
          apply hK
          · simp only [Act.put, List.setIfInBounds_toArray, List.set_cons_zero, List.set_cons_succ]
            exact rfl
          · exact Below.refl _ _
          · exact IsOut
        refine ⟨fun u W hb hd K hK => ?_, ?_⟩
        · simp only [Facts, nthR, Is, and_true] at hd
          simp only [hd] at hK ⊢
          clear hd
          go_simp
          apply hK
          · simp only [Act.put, List.setIfInBounds_toArray, List.set_cons_zero, List.set_cons_succ]
            exact rfl
          · exact Below.refl _ _
          · exact IsOut
        refine ⟨fun u W hb hd K hK => ?_, ?_⟩
        · simp only [Facts, nthR, Is, and_true] at hd
          simp only [hd] at hK ⊢
          clear hd
          go_simp
          apply hK
          · simp only [Act.put, List.setIfInBounds_toArray, List.set_cons_zero, List.set_cons_succ]
            exact rfl
          · exact Below.refl _ _
          · exact IsOut
        refine ⟨fun u W hb hd K hK => ?_, ?_⟩
        · clear hd
          go_simp
          apply hK
          · simp only [Act.put, List.setIfInBounds_toArray, List.set_cons_zero, List.set_cons_succ]
            exact rfl
          · exact Below.refl _ _
          · exact IsOut
        refine ⟨fun u W hb hd K hK => ?_, ?_⟩
        · clear hd
          go_simp
          apply hK
          · simp only [Act.put, List.setIfInBounds_toArray, List.set_cons_zero, List.set_cons_succ]
            exact rfl
          · exact Below.refl _ _
          · exact IsOut
        refine ⟨fun u W hb hd K hK => ?_, ?_⟩
        · simp only [Facts, nthR, Is, and_true] at hd
          simp only [hd] at hK ⊢
          clear hd
          go_simp
          apply hK
          · simp only [Act.put, List.setIfInBounds_toArray, List.set_cons_zero, List.set_cons_succ]
            exact rfl
          · exact Below.refl _ _
          · exact IsOut
        refine ⟨fun u W hb hd K hK => ?_, ?_⟩
        · simp only [Facts, nthR, Is, and_true] at hd
          simp only [hd] at hK ⊢
          clear hd
          go_simp
          apply hK
          · simp only [Act.put, List.setIfInBounds_toArray, List.set_cons_zero, List.set_cons_succ]
            exact rfl
          · exact Below.refl _ _
          · exact IsOut
        refine ⟨fun u W hb hd K hK => ?_, ?_⟩
        · simp only [Facts, nthR, Is, and_true] at hd
          simp only [hd] at hK ⊢
          clear hd
          go_simp
          apply hK
          · simp only [Act.put, List.setIfInBounds_toArray, List.set_cons_zero, List.set_cons_succ]
            exact rfl
          · exact Below.refl _ _
          · exact IsOut
        refine ⟨fun u W hb hd K hK => ?_, ?_⟩
        · simp only [Facts, nthR, Is, and_true] at hd
          simp only [hd] at hK ⊢
          clear hd
          go_simp
          apply hK
          · simp only [Act.put, List.setIfInBounds_toArray, List.set_cons_zero, List.set_cons_succ]
            exact rfl
          · exact Below.refl _ _
          · exact IsOut
        refine ⟨fun u W hb hd K hK => ?_, ?_⟩
        · simp only [Facts, nthR, Is, and_true] at hd
          simp only [hd] at hK ⊢
          clear hd
          go_simp
          apply hK
          · simp only [Act.put, List.setIfInBounds_toArray, List.set_cons_zero, List.set_cons_succ]
            exact rfl
          · exact Below.refl _ _
          · exact IsOut
        refine ⟨fun u W hb hd K hK => ?_, ?_⟩
        · simp only [Facts, nthR, Is, and_true] at hd
          simp only [hd] at hK ⊢
          clear hd
          go_simp
          apply hK
          · simp only [Act.put, List.setIfInBounds_toArray, List.set_cons_zero, List.set_cons_succ]
            exact rfl
          · exact Below.refl _ _
          · exact IsOut
        refine ⟨fun u W hb hd K hK => ?_, ?_⟩
        · clear hd
          go_simp
          apply hK
          · simp only [Act.put, List.setIfInBounds_toArray, List.set_cons_zero, List.set_cons_succ]
            exact rfl
          · exact Below.refl _ _
          · exact IsOut
        refine ⟨fun u W hb hd K hK => ?_, ?_⟩
        · clear hd
          go_simp
          apply hK
          · simp only [Act.put, List.setIfInBounds_toArray, List.set_cons_zero, List.set_cons_succ]
            exact rfl
          · exact Below.refl _ _
          · exact IsOut
        refine ⟨fun u W hb hd K hK => ?_, ?_⟩
        · simp only [Facts, nthR, Is, and_true] at hd
          simp only [hd] at hK ⊢
          clear hd
          go_simp
          apply hK
          · simp only [Act.put, List.setIfInBounds_toArray, List.set_cons_zero, List.set_cons_succ]
            exact rfl
          · exact Below.refl _ _
          · exact IsOut
        refine ⟨fun u W hb hd K hK => ?_, ?_⟩
        · simp only [Facts, nthR, Is, and_true] at hd
          simp only [hd] at hK ⊢
          clear hd
          go_simp
          apply hK
          · simp only [Act.put, List.setIfInBounds_toArray, List.set_cons_zero, List.set_cons_succ]
            exact rfl
          · exact Below.refl _ _
          · exact IsOut
        refine ⟨fun u W hb hd K hK => ?_, ?_⟩
        · simp only [Facts, nthR, Is, and_true] at hd
          simp only [hd] at hK ⊢
          clear hd
          go_simp
          apply hK
          · simp only [Act.put, List.setIfInBounds_toArray, List.set_cons_zero, List.set_cons_succ]
            exact rfl
          · exact Below.refl _ _
          · exact IsOut
        refine ⟨fun u W hb hd K hK => ?_, ?_⟩
        · simp only [Facts, nthR, Is, and_true] at hd
          simp only [hd] at hK ⊢
          clear hd
          go_simp
          apply hK
          · simp only [Act.put, List.setIfInBounds_toArray, List.set_cons_zero, List.set_cons_succ]
            exact rfl
          · exact Below.refl _ _
          · exact IsOut
        refine ⟨fun u W hb hd K hK => ?_, ?_⟩
        · simp only [Facts, nthR, Is, and_true] at hd
          simp only [hd] at hK ⊢
          clear hd
          go_simp
          apply hK
          · simp only [Act.put, List.setIfInBounds_toArray, List.set_cons_zero, List.set_cons_succ]
            exact rfl
          · exact Below.refl _ _
          · exact IsOut
        refine ⟨fun u W hb hd K hK => ?_, ?_⟩
        · simp only [Facts, nthR, Is, and_true] at hd
          simp only [hd] at hK ⊢
          clear hd
          go_simp
          apply hK
          · simp only [Act.put, List.setIfInBounds_toArray, List.set_cons_zero, List.set_cons_succ]
            exact rfl
          · exact Below.refl _ _
          · exact IsOut
        refine ⟨fun u W hb hd K hK => ?_, ?_⟩
        · simp only [Facts, nthR, Is, and_true] at hd
          simp only [hd] at hK ⊢
          clear hd
          go_simp
          apply hK
          · simp only [Act.put, List.setIfInBounds_toArray, List.set_cons_zero, List.set_cons_succ]
            exact rfl
          · exact Below.refl _ _
          · exact IsOut
        exact trivial
      · exact (.is (.is (.is (.is (.is (.is (.is (.is (.is (.is (.is (.is (.is (.is (.is (.is (.is (.is (.is (.is (.is (.is (.is (.is (.is (.is (.is (.is (.is (.is .nil))))))))))))))))))))))))))))))
      · intro u W hb29 hd
        simp only [Facts, nthR, Is, and_true] at hd
        simp only [hd]
        have hl0 := hs.lt
        replace hs := hs.below hb29 hgl
        replace hbd := hbd.trans (hb29.mono hsz2)
        have hgl2 := hs.lt
        have hsz3 : D ≤ W.heap.size := Nat.le_trans hsz2 hb29.size
        clear hd hX hb29 hsz2 hgl hl0 u0 u1 u2 u3 g1 g2 g3 r1 r2 r3 x0 x1 i1 v1 o1 n1 i2 v2 o2 n2 i3 v3 o3 n3 b0 b1 b2 b3
        generalize leWord bs (atOf k) = wd at *
        obtain ⟨X, hA3⟩ : ∃ z, z = A2 + wd := ⟨_, rfl⟩
        have q3 : ((A2.toNat : Int) + (wd.toNat : Int)) % 4294967296 = (X.toNat : Int) := by rw [hA3]; exact w_add _ _
        have q3' : IntKind.u32.wrap ((A2.toNat : Int) + (wd.toNat : Int)) = (X.toNat : Int) := by rw [IntKind.wrap_u32]; exact q3
        rw [← hA3] at HS
        clear hA3
        have hX2 := fun (V : World) (h : Below W.heap.size W V) => (show V.cell? ⟨g, 0, none⟩ = some (.int .u32 q.a.toNat) ∧ V.cell? ⟨gk, k, none⟩ = some (.int .u32 sn.toNat) from
          ⟨((hs.below h hgl2).cell 0), ((hbd.trans (h.mono hsz3)).cell (p := ⟨gk, k, none⟩) hgk).trans hkk⟩)
        have k0 : (0 : Int) ≤ (k : Int) := by omega
        have k1 : (k : Int) < 64 := by omega
        go_wp2
        apply wp_region_once (D := [[], [0], [], [0, 1, 2], [], [4], [4, 5], [0, 1, 2, 3, 4, 5, 6], [], [0, 1, 2, 3, 4, 5, 6, 7, 8], [0, 1, 2, 3, 4, 5, 6, 7, 8, 9]]) (J := [[], [0], [], [1, 2], [], [4], [5], [3, 6], [], [7, 8], [9]]) (Je := [10]) (Rs := [Is _, Is _, Is _, Is _, Is _, Is _, Is _, Is _, Is _, Is _, Is _])
        · kernel_rfl
        · kernel_rfl
        · kernel_rfl
        · kernel_rfl
        · kernel_rfl
        · kernel_rfl
        · intro u
          simp only [List.map_cons, List.map_nil, fillU, List.setIfInBounds_toArray, List.set_cons_zero, List.set_cons_succ, Nat.zero_add, Nat.reduceAdd]
          exact rfl
        · skip
          refine ⟨fun u W hb hd K hK => ?_, ?_⟩
          · clear hd
            go_simp
            apply hK
            · simp only [Act.put, List.setIfInBounds_toArray, List.set_cons_zero, List.set_cons_succ]
              exact rfl
            · exact Below.refl _ _
            · exact IsOut
          refine ⟨fun u W hb hd K hK => ?_, ?_⟩
          · simp only [Facts, nthR, Is, and_true] at hd
            simp only [hd] at hK ⊢
            clear hd
            go_simp
            apply hK
            · simp only [Act.put, List.setIfInBounds_toArray, List.set_cons_zero, List.set_cons_succ]
              exact rfl
            · exact Below.refl _ _
            · exact IsOut
          refine ⟨fun u W hb hd K hK => ?_, ?_⟩
          · clear hd
            go_simp
            apply hK
            · simp only [Act.put, List.setIfInBounds_toArray, List.set_cons_zero, List.set_cons_succ]
              exact rfl
            · exact Below.refl _ _
            · exact IsOut
          refine ⟨fun u W hb hd K hK => ?_, ?_⟩
          · simp only [Facts, nthR, Is, and_true] at hd
            simp only [hd] at hK ⊢
            clear hd
            go_simp
            apply hK
            · simp only [Act.put, List.setIfInBounds_toArray, List.set_cons_zero, List.set_cons_succ]
              exact rfl
            · exact Below.refl _ _
            · exact IsOut
          refine ⟨fun u W hb hd K hK => ?_, ?_⟩
          · clear hd
            go_simp
            apply hK
            · simp only [Act.put, List.setIfInBounds_toArray, List.set_cons_zero, List.set_cons_succ]
              exact rfl
            · exact Below.refl _ _
            · exact IsOut
          refine ⟨fun u W hb hd K hK => ?_, ?_⟩
          · simp only [Facts, nthR, Is, and_true] at hd
            simp only [hd] at hK ⊢
            clear hd
            go_simp
            apply hK
            · simp only [Act.put, List.setIfInBounds_toArray, List.set_cons_zero, List.set_cons_succ]
              exact rfl
            · exact Below.refl _ _
            · exact IsOut
          refine ⟨fun u W hb hd K hK => ?_, ?_⟩
          · simp only [Facts, nthR, Is, and_true] at hd
            simp only [hd] at hK ⊢
            clear hd
            go_simp
            apply hK
            · simp only [Act.put, List.setIfInBounds_toArray, List.set_cons_zero, List.set_cons_succ]
              exact rfl
            · exact Below.refl _ _
            · exact IsOut
          refine ⟨fun u W hb hd K hK => ?_, ?_⟩
          · simp only [Facts, nthR, Is, and_true] at hd
            simp only [hd] at hK ⊢
            clear hd
            go_simp
            apply hK
            · simp only [Act.put, List.setIfInBounds_toArray, List.set_cons_zero, List.set_cons_succ]
              exact rfl
            · exact Below.refl _ _
            · exact IsOut
          refine ⟨fun u W hb hd K hK => ?_, ?_⟩
          · clear hd
            go_simp
            apply hK
            · simp only [Act.put, List.setIfInBounds_toArray, List.set_cons_zero, List.set_cons_succ]
              exact rfl
            · exact Below.refl _ _
            · exact IsOut
          refine ⟨fun u W hb hd K hK => ?_, ?_⟩
          · simp only [Facts, nthR, Is, and_true] at hd
            simp only [hd] at hK ⊢
            clear hd
            go_simp
            apply hK
            · simp only [Act.put, List.setIfInBounds_toArray, List.set_cons_zero, List.set_cons_succ]
              exact rfl
            · exact Below.refl _ _
            · exact IsOut
          refine ⟨fun u W hb hd K hK => ?_, ?_⟩
          · simp only [Facts, nthR, Is, and_true] at hd
            simp only [hd] at hK ⊢
            clear hd
            go_simp
            apply hK
            · simp only [Act.put, List.setIfInBounds_toArray, List.set_cons_zero, List.set_cons_succ]
              exact rfl
            · exact Below.refl _ _
            · exact IsOut
          exact trivial
        · exact (.is (.is (.is (.is (.is (.is (.is (.is (.is (.is (.is .nil)))))))))))
        · intro u W hb30 hd
          simp only [Facts, nthR, Is, and_true] at hd
          simp only [hd]
          replace hs := hs.below hb30 hgl2
          replace hbd := hbd.trans (hb30.mono hsz3)
          have hgl4 := hs.lt
          have hsz4 : D ≤ W.heap.size := Nat.le_trans hsz3 hb30.size
          clear hd hX2 hb30 hsz3 hgl2 q1 q2 q3 q1' q2' q3'
          obtain ⟨L1, hL1⟩ : ∃ z, z = X <<< UInt32.ofNat sh := ⟨_, rfl⟩
          obtain ⟨L2, hL2⟩ : ∃ z, z = X >>> UInt32.ofNat (32 - sh) := ⟨_, rfl⟩
          have w1 : ((X.toNat : Int) * 2 ^ sh) % 4294967296 = (L1.toNat : Int) := by rw [hL1]; exact w_shl X sh hsh.2
          have w1' : IntKind.u32.wrap ((X.toNat : Int) * 2 ^ sh) = (L1.toNat : Int) := by rw [IntKind.wrap_u32]; exact w1
          obtain ⟨sc, hsc⟩ : ∃ z, z = 32 - sh := ⟨_, rfl⟩
          have w2 : (X.toNat : Int) / 2 ^ sc = (L2.toNat : Int) := by rw [hL2, hsc]; exact w_shr X (32 - sh) (by omega)
          have w3 : bits .or .u32 (L1.toNat : Int) (L2.toNat : Int) = ((rotl sh X).toNat : Int) := by rw [w_or, hL1, hL2]; rfl
          clear hL1 hL2
          have s0 : ¬ ((sh : Int) < 0) := by omega
          have s1 : ((32 : Int) - sh) = (sc : Int) := by omega
          have s2 : ¬ ((sc : Int) < 0) := by omega
          have s3 : min sh 32 = sh := by omega
          have s4 : min sc 32 = sc := by omega
          have s7 : IntKind.i64.wrap (sc : Int) = (sc : Int) := by rw [IntKind.wrap_i64]; omega
          have s8 : (sc : Int) < 32 := by omega
          have s9 : (0 : Int) ≤ (sc : Int) := by omega
          clear hsc
          have s5 : (sh : Int) < 32 := by omega
          have s6 : (0 : Int) ≤ (sh : Int) := by omega
          go_wp2
          apply wp_region_once_tail (m := 10) (Z := []) (D := [[], [], [1], [0, 1, 2], [], [], [1, 2, 5], [1, 2, 5, 6], [1, 2, 4, 5, 6, 7], [0, 1, 2, 3, 4, 5, 6, 7, 8], [0, 1, 2, 3, 4, 5, 6, 7, 8, 9]]) (J := [[], [], [1], [0, 2], [], [], [5], [6], [4, 7], [3, 8]]) (Je := [9]) (Rs := [Is _, Is _, Is _, Is _, Is _, Is _, Is _, Is _, Is _, Is _])
          · kernel_rfl
          · kernel_rfl
          · kernel_rfl
          · kernel_rfl
          · kernel_rfl
          · kernel_rfl
          · kernel_rfl
          · exact fun h => absurd rfl h
          · intro u
            simp only [List.take_succ_cons, List.take_zero, List.map_cons, List.map_nil, fillU, List.setIfInBounds_toArray, List.set_cons_zero, List.set_cons_succ, Nat.zero_add, Nat.reduceAdd]
            exact rfl
          · simp only [List.take_succ_cons, List.take_zero]
            refine ⟨fun u W hb hd K hK => ?_, ?_⟩
            · clear hd
              go_simp
              apply hK
              · simp only [Act.put, List.setIfInBounds_toArray, List.set_cons_zero, List.set_cons_succ]
                exact rfl
              · exact Below.refl _ _
              · exact IsOut
            refine ⟨fun u W hb hd K hK => ?_, ?_⟩
            · clear hd
              go_simp
              apply hK
              · simp only [Act.put, List.setIfInBounds_toArray, List.set_cons_zero, List.set_cons_succ]
                exact rfl
              · exact Below.refl _ _
              · exact IsOut
            refine ⟨fun u W hb hd K hK => ?_, ?_⟩
            · simp only [Facts, nthR, Is, and_true] at hd
              simp only [hd] at hK ⊢
              clear hd
              go_simp
              refine (hTU W).mono ?_
              rintro e wy ⟨rfl, hby⟩
              exact hK _ _ _ rfl hby IsOut
            refine ⟨fun u W hb hd K hK => ?_, ?_⟩
            · simp only [Facts, nthR, Is, and_true] at hd
              simp only [hd] at hK ⊢
              clear hd
              go_simp
              apply hK
              · simp only [Act.put, List.setIfInBounds_toArray, List.set_cons_zero, List.set_cons_succ]
                exact rfl
              · exact Below.refl _ _
              · exact IsOut
            refine ⟨fun u W hb hd K hK => ?_, ?_⟩
            · clear hd
              go_simp
              apply hK
              · simp only [Act.put, List.setIfInBounds_toArray, List.set_cons_zero, List.set_cons_succ]
                exact rfl
              · exact Below.refl _ _
              · exact IsOut
            refine ⟨fun u W hb hd K hK => ?_, ?_⟩
            · clear hd
              go_simp
              apply hK
              · simp only [Act.put, List.setIfInBounds_toArray, List.set_cons_zero, List.set_cons_succ]
                exact rfl
              · exact Below.refl _ _
              · exact IsOut
            refine ⟨fun u W hb hd K hK => ?_, ?_⟩
            · simp only [Facts, nthR, Is, and_true] at hd
              simp only [hd] at hK ⊢
              clear hd
              go_simp
              refine (hTU W).mono ?_
              rintro e wy ⟨rfl, hby⟩
              exact hK _ _ _ rfl hby IsOut
            refine ⟨fun u W hb hd K hK => ?_, ?_⟩
            · simp only [Facts, nthR, Is, and_true] at hd
              simp only [hd] at hK ⊢
              clear hd
              go_simp
              apply hK
              · simp only [Act.put, List.setIfInBounds_toArray, List.set_cons_zero, List.set_cons_succ]
                exact rfl
              · exact Below.refl _ _
              · exact IsOut
            refine ⟨fun u W hb hd K hK => ?_, ?_⟩
            · simp only [Facts, nthR, Is, and_true] at hd
              simp only [hd] at hK ⊢
              clear hd
              go_simp
              apply hK
              · simp only [Act.put, List.setIfInBounds_toArray, List.set_cons_zero, List.set_cons_succ]
                exact rfl
              · exact Below.refl _ _
              · exact IsOut
            refine ⟨fun u W hb hd K hK => ?_, ?_⟩
            · simp only [Facts, nthR, Is, and_true] at hd
              simp only [hd] at hK ⊢
              clear hd
              go_simp
              apply hK
              · simp only [Act.put, List.setIfInBounds_toArray, List.set_cons_zero, List.set_cons_succ]
                exact rfl
              · exact Below.refl _ _
              · exact IsOut
            exact trivial
          · skip
            exact trivial
          · exact (.is (.is (.is (.is (.is (.is (.is (.is (.is (.is .nil))))))))))
          · intro u W hb31 hd
            simp only [List.drop_succ_cons, List.drop_zero]
            simp only [Facts, nthR, Is, and_true] at hd
            simp only [hd]
            replace hs := hs.below hb31 hgl4
            replace hbd := hbd.trans (hb31.mono hsz4)
            have hsz5 : D ≤ W.heap.size := Nat.le_trans hsz4 hb31.size
            clear hd hb31 hsz4 hgl4 w1 w1' w2 w3 s0 s1 s2 s3 s4 s5 s6 s7 s8 s9 hTU hsh
            generalize rotl sh X = r at *
            have c1 : World.cell? _ ⟨g, 1, none⟩ = some (.int .u32 q.b.toNat) := hs.cell 1
            have c2 : World.cell? _ ⟨g, 2, none⟩ = some (.int .u32 q.c.toNat) := hs.cell 2
            have c3 : World.cell? _ ⟨g, 3, none⟩ = some (.int .u32 q.d.toNat) := hs.cell 3
            obtain ⟨B1, hB1⟩ : ∃ z, z = q.b + r := ⟨_, rfl⟩
            have q6 : ((q.b.toNat : Int) + (r.toNat : Int)) % 4294967296 = (B1.toNat : Int) := by rw [hB1]; exact w_add _ _
            have q6' : IntKind.u32.wrap ((q.b.toNat : Int) + (r.toNat : Int)) = (B1.toNat : Int) := by rw [IntKind.wrap_u32]; exact q6
            rw [← hB1] at HS
            clear hB1
            obtain ⟨qn, hqn⟩ : ∃ qn : Qd, qn = ⟨q.d, B1, q.b, q.c⟩ := ⟨_, rfl⟩
            have HV : Hid (Value.agg #[.int .u32 q.d.toNat, .int .u32 B1.toNat, .int .u32 q.b.toNat, .int .u32 q.c.toNat] = .agg qn.vals.toArray) := Lib.hid (by rw [hqn]; rfl)
            rw [← hqn] at HS
            clear hqn
            go_wp2_with ((with_reducible refine (?_ : wpList _ _ _ (Oper.mk none (.store 120 _ _) _ _ _ _ :: _) _ _)); go_loud (refine wpList_store_blk rfl 120 (.tmp 9) (.tmp 184) rfl rfl g qn.vals rfl HV.out 120 _ hs (info43 _) rfl (qd_one4 _) ?_); intro w10 hs4 hg4)
            go_roundw
            case rel => exact ⟨k + 1, qn, by omega, by go_num, HS.out.symm, hs4, hbd.trans (grown_below hg4 hD hsz5)⟩
            case measure => simp [intOf]; omega
    · have hd : decide ((k : Int) < 64) = false := by simp; omega
      obtain rfl : k = 64 := by omega
      go_wp2
      rw [HQ.out] at hs
      exact h _ _ _ _ _ _ _ _ _ _ _ _ _ _ _ _ _ _ _ _ _ _ _ _ _ _ _ _ _ _ _ _ _ _ _ _ _ _ _ _ _ _ _ _ _ _ _ _ _ _ _ _ _ _ _ _ _ _ _ _ _ _ _ _ _ _ _ _ _ _ _ _ _ _ _ _ _ _ _ _ _ _ _ _ _ _ _ _ _ _ _ _ _ _ _ _ _ _ _ _ _ _ _ _ _ _ _ _ _ _ _ _ _ _ _ _ _ _ _ _ _ _ _ _ _ _ _ _ _ _ _ _ _ _ _ _ _ _ hs hbd


end
end Go.Proofs.YtbomckbekcaemaaDoor
