/-
  Rows of the reference's messages: those that come in, and those of the call's own.
-/
import Derived.Test.YtagblbfbjemfhaaDoorJp
import Derived.Maps.AppendAt
namespace Go.Proofs.YtagblbfbjemfhaaDoor
open Go.RowKit Go.ChangeShapes Go.WideShapes Go.ChangeAt
open HelloMath (Msg zeroM)

theorem wp_append_own {T ST : TypeId} {z : Value} {size bytes : Nat} (hu : Tryd.prog.underlying ST = some (.slice T)) (hinf : (Tryd.prog.info? T).map (fun i => (i.zero, i.size, i.bytes)) = some (some z, size, bytes)) (hzs : z.cells.size = size) (hs0 : 0 < size) (hby : bytes ≤ 10000)
    {o : Oper} {a : Act} {w : World} {K : Act → World → Prop} {Q : Exit → Act → World → Prop} (s x : Operand) (ho : o.op = .call { callee := .builtin .append, args := #[s, x], argTypes := #[ST, ST] })
    (base : Nat) (v : Value) (n : Nat) (xs : List Value) (hs : a.eval s = v) (hown : w.ownsRow base T size v n xs) (hbase : base ≤ w.heap.size)
    (ad : Addr) (m c : Nat) (hx : a.eval x = .slice (some ad) m c) (news : List Value) (hl : news.length = m * size) (hnews : ∀ j u, news[j]? = some u → w.cell? (ad.add j) = some u) (h1 : ∀ u ∈ news, u.oneCell' = true) (hn : n + m ≤ 1000000)
    (h : ∀ v' w', w'.ownsRow base T size v' (n + m) (xs ++ news) → w.grownBy w' v.ownBlock → (v'.ownBlock = v.ownBlock ∨ v'.ownBlock = some w.heap.size) → K (a.put o.dst v') w') : Oper.wp Tryd.prog o a w K Q := by
  cases hi : Tryd.prog.info? T with
  | none => rw [hi] at hinf; simp at hinf
  | some i =>
    rw [hi] at hinf
    simp only [Option.map_some, Option.some.injEq, Prod.mk.injEq] at hinf
    obtain ⟨hz, hsz, hb⟩ := hinf
    have hbn : (n + m) * bytes ≤ 140737488355328 := Nat.le_trans (Nat.mul_le_mul hn hby) (by decide)
    obtain ⟨v', w', hr, h2, h3, _, h4⟩ := run_append_own_at (P := Tryd.prog) w base ST o.type T i z size bytes hu hi hz hsz hb hzs hs0 v n xs hown ad m c news hl hnews h1 (by simp only [maxLen]; omega) hbn hbase
    unfold Oper.wp execOp
    simp only [ho, resolve, invoke, builtin, Sem.run_bind, Sem.run_pure, Result.andThen_ok, List.map_toArray, List.map_cons, List.map_nil, hs, hx, hr]
    exact h _ _ h2 h3 h4
theorem wpList_append_own {T ST : TypeId} {z : Value} {size bytes : Nat} (hu : Tryd.prog.underlying ST = some (.slice T)) (hinf : (Tryd.prog.info? T).map (fun i => (i.zero, i.size, i.bytes)) = some (some z, size, bytes)) (hzs : z.cells.size = size) (hs0 : 0 < size) (hby : bytes ≤ 10000)
    {ops : Array Oper} {rest : List Oper} {o : Oper} {a : Act} {w : World} {Q : Exit → Act → World → Prop} (hgd : o.guard = none) (s x : Operand) (ho : o.op = .call { callee := .builtin .append, args := #[s, x], argTypes := #[ST, ST] })
    (base : Nat) (v : Value) (n : Nat) (xs : List Value) (hs : a.eval s = v) (hown : w.ownsRow base T size v n xs) (hbase : base ≤ w.heap.size)
    (ad : Addr) (m c : Nat) (hx : a.eval x = .slice (some ad) m c) (news : List Value) (hl : news.length = m * size) (hnews : ∀ j u, news[j]? = some u → w.cell? (ad.add j) = some u) (h1 : ∀ u ∈ news, u.oneCell' = true) (hn : n + m ≤ 1000000)
    (h : ∀ v' w', w'.ownsRow base T size v' (n + m) (xs ++ news) → w.grownBy w' v.ownBlock → (v'.ownBlock = v.ownBlock ∨ v'.ownBlock = some w.heap.size) → wpList Tryd.prog ops Q rest (a.put o.dst v') w') : wpList Tryd.prog ops Q (o :: rest) a w :=
  wpList_plain hgd fun _ hK' => wp_append_own hu hinf hzs hs0 hby s x ho base v n xs hs hown hbase ad m c hx news hl hnews h1 hn (fun v' w' h2 h3 h4 => hK' _ _ (h v' w' h2 h3 h4))
theorem step_append_own {T ST : TypeId} {z : Value} {size bytes : Nat} (hu : Tryd.prog.underlying ST = some (.slice T)) (hinf : (Tryd.prog.info? T).map (fun i => (i.zero, i.size, i.bytes)) = some (some z, size, bytes)) (hzs : z.cells.size = size) (hs0 : 0 < size) (hby : bytes ≤ 10000)
    {ops : Array Oper} {o : Oper} {a : Act} {w : World} {K : Act → World → Prop} {Q : Exit → Act → World → Prop} {E : Prop} (hgd : o.guard = none) (s x : Operand) (ho : o.op = .call { callee := .builtin .append, args := #[s, x], argTypes := #[ST, ST] })
    (base : Nat) (v : Value) (n : Nat) (xs : List Value) (hs : a.eval s = v) (hown : w.ownsRow base T size v n xs) (hbase : base ≤ w.heap.size)
    (ad : Addr) (m c : Nat) (hx : a.eval x = .slice (some ad) m c) (news : List Value) (hl : news.length = m * size) (hnews : ∀ j u, news[j]? = some u → w.cell? (ad.add j) = some u) (h1 : ∀ u ∈ news, u.oneCell' = true) (hn : n + m ≤ 1000000)
    (h : ∀ v' w', w'.ownsRow base T size v' (n + m) (xs ++ news) → w.grownBy w' v.ownBlock → (v'.ownBlock = v.ownBlock ∨ v'.ownBlock = some w.heap.size) → K (a.put o.dst v') w') : if Region.wanted o (yielded ops a.tmps) = true then Oper.wp Tryd.prog o a w K Q else E := by
  have hw : Region.wanted o (yielded ops a.tmps) = true := by simp [Region.wanted, hgd]
  rw [if_pos hw]
  exact wp_append_own hu hinf hzs hs0 hby s x ho base v n xs hs hown hbase ad m c hx news hl hnews h1 hn h
set_option maxRecDepth 100000 in
theorem builtR1' (x0 x1 x2 x3 x4 x5 x6 x7 x8 x9 x10 x11 x12 x13 x14 x15 x16 x17 x18 x19 x20 x21 x22 x23 x24 x25 x26 x27 x28 x29 x30 x31 x32 x33 x34 x35 x36 x37 x38 x39 x40 x41 x42 x43 x44 x45 x46 x47 x48 x49 x50 x51 x52 x53 x54 x55 x56 x57 x58 x59 x60 x61 x62 x63 x64 x65 x66 x67 x68 x69 x70 x71 x72 x73 x74 : Value) : Tryd.prog.builtSlice 25 1 [(0, .agg #[x0, x1, x2, x3, x4, x5, x6, x7, x8, x9, x10, x11, x12, x13, x14, x15, x16, x17, x18, x19, x20, x21, x22, x23, x24, x25, x26, x27, x28, x29, x30, x31, x32, x33, x34, x35, x36, x37, x38, x39, x40, x41, x42, x43, x44, x45, x46, x47, x48, x49, x50, x51, x52, x53, x54, x55, x56, x57, x58, x59, x60, x61, x62, x63, x64, x65, x66, x67, x68, x69, x70, x71, x72, x73, x74])] = some #[x0, x1, x2, x3, x4, x5, x6, x7, x8, x9, x10, x11, x12, x13, x14, x15, x16, x17, x18, x19, x20, x21, x22, x23, x24, x25, x26, x27, x28, x29, x30, x31, x32, x33, x34, x35, x36, x37, x38, x39, x40, x41, x42, x43, x44, x45, x46, x47, x48, x49, x50, x51, x52, x53, x54, x55, x56, x57, x58, x59, x60, x61, x62, x63, x64, x65, x66, x67, x68, x69, x70, x71, x72, x73, x74] := by kernel_rfl
theorem list_step {n : Nat} (L : List Value) (h : L.length = n + 1) : ∃ a T, L = a :: T ∧ T.length = n := by
  cases L with
  | nil => cases h
  | cons a T => exact ⟨a, T, rfl, by simpa using h⟩
set_option maxRecDepth 100000 in
theorem builtR1 (cs : List Value) (h : cs.length = 75) : Tryd.prog.builtSlice 25 1 [(0, .agg cs.toArray)] = some cs.toArray := by
  obtain ⟨x0, T0, rfl, h0⟩ := list_step (n := 74) cs h
  obtain ⟨x1, T1, rfl, h1⟩ := list_step (n := 73) T0 h0
  obtain ⟨x2, T2, rfl, h2⟩ := list_step (n := 72) T1 h1
  obtain ⟨x3, T3, rfl, h3⟩ := list_step (n := 71) T2 h2
  obtain ⟨x4, T4, rfl, h4⟩ := list_step (n := 70) T3 h3
  obtain ⟨x5, T5, rfl, h5⟩ := list_step (n := 69) T4 h4
  obtain ⟨x6, T6, rfl, h6⟩ := list_step (n := 68) T5 h5
  obtain ⟨x7, T7, rfl, h7⟩ := list_step (n := 67) T6 h6
  obtain ⟨x8, T8, rfl, h8⟩ := list_step (n := 66) T7 h7
  obtain ⟨x9, T9, rfl, h9⟩ := list_step (n := 65) T8 h8
  obtain ⟨x10, T10, rfl, h10⟩ := list_step (n := 64) T9 h9
  obtain ⟨x11, T11, rfl, h11⟩ := list_step (n := 63) T10 h10
  obtain ⟨x12, T12, rfl, h12⟩ := list_step (n := 62) T11 h11
  obtain ⟨x13, T13, rfl, h13⟩ := list_step (n := 61) T12 h12
  obtain ⟨x14, T14, rfl, h14⟩ := list_step (n := 60) T13 h13
  obtain ⟨x15, T15, rfl, h15⟩ := list_step (n := 59) T14 h14
  obtain ⟨x16, T16, rfl, h16⟩ := list_step (n := 58) T15 h15
  obtain ⟨x17, T17, rfl, h17⟩ := list_step (n := 57) T16 h16
  obtain ⟨x18, T18, rfl, h18⟩ := list_step (n := 56) T17 h17
  obtain ⟨x19, T19, rfl, h19⟩ := list_step (n := 55) T18 h18
  obtain ⟨x20, T20, rfl, h20⟩ := list_step (n := 54) T19 h19
  obtain ⟨x21, T21, rfl, h21⟩ := list_step (n := 53) T20 h20
  obtain ⟨x22, T22, rfl, h22⟩ := list_step (n := 52) T21 h21
  obtain ⟨x23, T23, rfl, h23⟩ := list_step (n := 51) T22 h22
  obtain ⟨x24, T24, rfl, h24⟩ := list_step (n := 50) T23 h23
  obtain ⟨x25, T25, rfl, h25⟩ := list_step (n := 49) T24 h24
  obtain ⟨x26, T26, rfl, h26⟩ := list_step (n := 48) T25 h25
  obtain ⟨x27, T27, rfl, h27⟩ := list_step (n := 47) T26 h26
  obtain ⟨x28, T28, rfl, h28⟩ := list_step (n := 46) T27 h27
  obtain ⟨x29, T29, rfl, h29⟩ := list_step (n := 45) T28 h28
  obtain ⟨x30, T30, rfl, h30⟩ := list_step (n := 44) T29 h29
  obtain ⟨x31, T31, rfl, h31⟩ := list_step (n := 43) T30 h30
  obtain ⟨x32, T32, rfl, h32⟩ := list_step (n := 42) T31 h31
  obtain ⟨x33, T33, rfl, h33⟩ := list_step (n := 41) T32 h32
  obtain ⟨x34, T34, rfl, h34⟩ := list_step (n := 40) T33 h33
  obtain ⟨x35, T35, rfl, h35⟩ := list_step (n := 39) T34 h34
  obtain ⟨x36, T36, rfl, h36⟩ := list_step (n := 38) T35 h35
  obtain ⟨x37, T37, rfl, h37⟩ := list_step (n := 37) T36 h36
  obtain ⟨x38, T38, rfl, h38⟩ := list_step (n := 36) T37 h37
  obtain ⟨x39, T39, rfl, h39⟩ := list_step (n := 35) T38 h38
  obtain ⟨x40, T40, rfl, h40⟩ := list_step (n := 34) T39 h39
  obtain ⟨x41, T41, rfl, h41⟩ := list_step (n := 33) T40 h40
  obtain ⟨x42, T42, rfl, h42⟩ := list_step (n := 32) T41 h41
  obtain ⟨x43, T43, rfl, h43⟩ := list_step (n := 31) T42 h42
  obtain ⟨x44, T44, rfl, h44⟩ := list_step (n := 30) T43 h43
  obtain ⟨x45, T45, rfl, h45⟩ := list_step (n := 29) T44 h44
  obtain ⟨x46, T46, rfl, h46⟩ := list_step (n := 28) T45 h45
  obtain ⟨x47, T47, rfl, h47⟩ := list_step (n := 27) T46 h46
  obtain ⟨x48, T48, rfl, h48⟩ := list_step (n := 26) T47 h47
  obtain ⟨x49, T49, rfl, h49⟩ := list_step (n := 25) T48 h48
  obtain ⟨x50, T50, rfl, h50⟩ := list_step (n := 24) T49 h49
  obtain ⟨x51, T51, rfl, h51⟩ := list_step (n := 23) T50 h50
  obtain ⟨x52, T52, rfl, h52⟩ := list_step (n := 22) T51 h51
  obtain ⟨x53, T53, rfl, h53⟩ := list_step (n := 21) T52 h52
  obtain ⟨x54, T54, rfl, h54⟩ := list_step (n := 20) T53 h53
  obtain ⟨x55, T55, rfl, h55⟩ := list_step (n := 19) T54 h54
  obtain ⟨x56, T56, rfl, h56⟩ := list_step (n := 18) T55 h55
  obtain ⟨x57, T57, rfl, h57⟩ := list_step (n := 17) T56 h56
  obtain ⟨x58, T58, rfl, h58⟩ := list_step (n := 16) T57 h57
  obtain ⟨x59, T59, rfl, h59⟩ := list_step (n := 15) T58 h58
  obtain ⟨x60, T60, rfl, h60⟩ := list_step (n := 14) T59 h59
  obtain ⟨x61, T61, rfl, h61⟩ := list_step (n := 13) T60 h60
  obtain ⟨x62, T62, rfl, h62⟩ := list_step (n := 12) T61 h61
  obtain ⟨x63, T63, rfl, h63⟩ := list_step (n := 11) T62 h62
  obtain ⟨x64, T64, rfl, h64⟩ := list_step (n := 10) T63 h63
  obtain ⟨x65, T65, rfl, h65⟩ := list_step (n := 9) T64 h64
  obtain ⟨x66, T66, rfl, h66⟩ := list_step (n := 8) T65 h65
  obtain ⟨x67, T67, rfl, h67⟩ := list_step (n := 7) T66 h66
  obtain ⟨x68, T68, rfl, h68⟩ := list_step (n := 6) T67 h67
  obtain ⟨x69, T69, rfl, h69⟩ := list_step (n := 5) T68 h68
  obtain ⟨x70, T70, rfl, h70⟩ := list_step (n := 4) T69 h69
  obtain ⟨x71, T71, rfl, h71⟩ := list_step (n := 3) T70 h70
  obtain ⟨x72, T72, rfl, h72⟩ := list_step (n := 2) T71 h71
  obtain ⟨x73, T73, rfl, h73⟩ := list_step (n := 1) T72 h72
  obtain ⟨x74, T74, rfl, h74⟩ := list_step (n := 0) T73 h73
  obtain rfl := List.eq_nil_of_length_eq_zero h74
  exact builtR1' x0 x1 x2 x3 x4 x5 x6 x7 x8 x9 x10 x11 x12 x13 x14 x15 x16 x17 x18 x19 x20 x21 x22 x23 x24 x25 x26 x27 x28 x29 x30 x31 x32 x33 x34 x35 x36 x37 x38 x39 x40 x41 x42 x43 x44 x45 x46 x47 x48 x49 x50 x51 x52 x53 x54 x55 x56 x57 x58 x59 x60 x61 x62 x63 x64 x65 x66 x67 x68 x69 x70 x71 x72 x73 x74
theorem infR : (Tryd.prog.info? 25).map (fun i => (i.zero, i.size)) = some (some (.agg (mC (zeroM 0) (TX []) (TX []) (TX []) (TX []) (TX []) (.slice none 0 0)).toArray), 75) := by kernel_rfl
/-- messages that somebody may read -/
def MIn (w : World) (v : Value) (ms : List Msg) : Prop := ∃ A c, v = .slice A ms.length c ∧ (ms.length ≤ c ∧ c ≤ 9223372036854775807) ∧ (0 < ms.length → ∃ g o, A = some ⟨g, o, none⟩ ∧ g < w.heap.size ∧ ∀ j, j < ms.length → ∃ cs, w.rangeAt g (o + j * 75) cs ∧ RIn w (ms.getD j (zeroM 0)) cs)
theorem range_below {w w' : World} {g o : Nat} {cs : List Value} (h : w.rangeAt g o cs) (hg : g < w.heap.size) (hb : Below w.heap.size w w') : w'.rangeAt g o cs := fun i v hv => (hb.cell (p := ⟨g, o + i, none⟩) hg).trans (h i v hv)
theorem MIn.below {w w' : World} {v : Value} {ms : List Msg} (h : MIn w v ms) (hb : Below w.heap.size w w') : MIn w' v ms := by
  obtain ⟨A, c, e, hl, h⟩ := h
  refine ⟨A, c, e, hl, fun h0 => ?_⟩
  obtain ⟨g, o, eA, hg, hj⟩ := h h0
  refine ⟨g, o, eA, Nat.lt_of_lt_of_le hg hb.size, fun j hjl => ?_⟩
  obtain ⟨cs, h1, h2⟩ := hj j hjl
  exact ⟨cs, range_below h1 hg hb, h2.below hb⟩
theorem min_of_trod {H : Type} {enc : TypeId × Value → H} {W : World} {a : Option Addr} {len cap : Nat} {d : DataW H} {p : List MemPlace}
    (h : DataW.Trod enc Tryd.prog W 0 (fun _ => true) true 48 (.slice a len cap) d p) : ∃ ms : List Msg, ms.length = len ∧ MIn W (.slice a len cap) ms := by
  obtain ⟨fuel, hf⟩ := h
  have c75 : Tryd.prog.cellsOf 25 = 75 := by kernel_rfl
  rcases Go.Deep.open_slice Tryd.underlying48 hf with ⟨hcs, _⟩ | ⟨x, l, c, m, n, D, Pl, hcs, _, hl, hm, hmm, _, hx⟩
  · simp [Value.cells] at hcs
    obtain ⟨rfl, rfl, rfl⟩ := hcs
    exact ⟨[], rfl, none, 0, rfl, ⟨by simp, by omega⟩, fun h => absurd h (by simp)⟩
  · simp [Value.cells] at hcs
    obtain ⟨rfl, rfl, rfl⟩ := hcs
    simp only [if_true] at hmm
    subst hmm
    have each : ∀ i, i < len → ∃ t : Msg, ∃ cs', (∀ k u, cs'[k]? = some u → W.cell? ((x.add (i * 75)).add k) = some u) ∧ RIn W t cs' := fun i hi => by
      obtain ⟨cs', h1, h2⟩ := hx i (by omega)
      rw [c75] at h1
      obtain ⟨t, cl, he, hr⟩ := rmsg_of_trod (enc := enc) (W := W) (v := .agg cs'.toArray) (d := _) (p := _) ⟨_, by simpa [Value.cells] using h2⟩
      have e2 : cs' = cl := by
        have := congrArg (fun v => match v with | Value.agg a => a.toList | _ => []) he
        simpa using this
      subst e2
      have hc := World.cells?_some h1
      refine ⟨t, cs', fun k u hu => ?_, hr⟩
      have hk : k < cs'.length := (List.getElem?_eq_some_iff.1 hu).1
      have g0 := hc.2.2 k (by have := hr.len; omega)
      rw [hu] at g0
      exact g0
    obtain ⟨T, hT⟩ : ∃ T : Nat → Msg, ∀ i, i < len → ∃ cs', (∀ k u, cs'[k]? = some u → W.cell? ((x.add (i * 75)).add k) = some u) ∧ RIn W (T i) cs' :=
      ⟨fun i => if h : i < len then Classical.choose (each i h) else zeroM 0, fun i hi => by simp only [dif_pos hi]; exact Classical.choose_spec (each i hi)⟩
    refine ⟨(List.range len).map T, by simp, some x, m, by simp, ⟨by simpa using hl, by simpa [maxLen] using hm⟩, fun h0 => ?_⟩
    have h0' : 0 < len := by simpa using h0
    obtain ⟨b, off, spot⟩ := x
    obtain ⟨cs0, hc0, hr0⟩ := hT 0 h0'
    have hfst : ∃ u, W.cell? ((Addr.add ⟨b, off, spot⟩ (0 * 75)).add 0) = some u := by
      obtain ⟨u, hu⟩ : ∃ u, cs0[0]? = some u := ⟨_, List.getElem?_eq_getElem (by rw [hr0.len]; decide)⟩
      exact ⟨u, hc0 0 u hu⟩
    obtain ⟨u0, hu0⟩ := hfst
    have hspot : spot = none := by simpa [Addr.add] using World.cell?_spot hu0
    subst hspot
    refine ⟨b, off, rfl, by simpa [Addr.add] using block_lt_of_cell hu0, fun j hj => ?_⟩
    have hj' : j < len := by simpa using hj
    have e : ((List.range len).map T).getD j (zeroM 0) = T j := by simp [List.getD_eq_getElem?_getD, hj']
    rw [e]
    obtain ⟨cs', g0, g1⟩ := hT j hj'
    refine ⟨cs', fun k u hu => ?_, g1⟩
    have := g0 k u hu
    rw [add_row, add_row] at this
    exact this
theorem flat_get : ∀ (css : List (List Value)), (∀ c ∈ css, c.length = 75) → ∀ (j i : Nat), j < css.length → i < 75 → css.flatten[j * 75 + i]? = (css.getD j [])[i]?
  | [], _, j, i, hj, _ => absurd hj (by simp)
  | c :: css, h, 0, i, _, hi => by
    rw [List.flatten_cons, List.getElem?_append_left (by rw [h c (by simp)]; omega)]
    simp
  | c :: css, h, j + 1, i, hj, hi => by
    have hc := h c (by simp)
    rw [List.flatten_cons, List.getElem?_append_right (by rw [hc]; omega), hc, show (j + 1) * 75 + i - 75 = j * 75 + i by omega, flat_get css (fun c hc => h c (by simp [hc])) j i (by simpa using hj) hi]
    simp
/-- its certificates do not lie in that block -/
def COff (m : Msg) (cs : List Value) (r : Option Nat) : Prop := 0 < m.certs.length → ∀ g o n c, cs[70]? = some (.slice (some ⟨g, o, none⟩) n c) → r ≠ some g
theorem rC_70 {m : Msg} {vc : Value} (hl : m.rnd.length = 32 ∧ m.mark.length = 32) : (rC m vc)[70]? = some vc := mC_get hl.1 hl.2 5
theorem RIn.grown {w w' : World} {m : Msg} {cs : List Value} {r : Option Nat} (h : RIn w m cs) (hg : w.grownBy w' r) (hc : COff m cs r) : RIn w' m cs := by
  obtain ⟨hl, vc, rfl, A, c, rfl, hlc, hr⟩ := h
  refine ⟨hl, _, rfl, A, c, rfl, hlc, fun h0 => ?_⟩
  obtain ⟨g, o, rfl, hgs, hj⟩ := hr h0
  have hne := hc h0 g o _ c (rC_70 hl)
  exact ⟨g, o, rfl, Nat.lt_of_lt_of_le hgs hg.size, fun j hjl => (World.cell?_of_block (w := w) (a := ⟨g, o + j, none⟩) (hg.block g hgs (fun e => hne e.symm))).trans (hj j hjl)⟩
theorem RIn.coff {w : World} {m : Msg} {cs : List Value} (h : RIn w m cs) {k : Nat} (hk : w.heap.size ≤ k) : COff m cs (some k) := by
  obtain ⟨hl, vc, rfl, A, c, rfl, hlc, hr⟩ := h
  intro h0 g o n c' e he
  rw [rC_70 hl] at e
  cases e
  obtain ⟨g', o', e', hgs, _⟩ := hr h0
  cases e'
  cases he
  omega
theorem RIo.coff {w : World} {D : Nat} {m : Msg} {cs : List Value} {r : Option Nat} (h : RIo w D m cs) (hk : ∀ k, r = some k → k < D) : COff m cs r := by
  obtain ⟨hl, vc, rfl, hs⟩ := h
  intro h0 g o n c' e he
  rw [rC_70 hl] at e
  cases e
  obtain ⟨gp, c, e', h1, h2, h3, _⟩ := hs.row h0
  cases e'
  have := hk g he
  omega
theorem ownBlock_slice (A : Option Addr) (n c : Nat) : (Value.slice A n c).ownBlock = ownOf A := by cases A <;> rfl
/-- messages of the call's own; a: bytes of the call's own, in another block -/
def MRow (w : World) (base : Nat) (v a : Value) (ms : List Msg) : Prop := (∀ k, v.ownBlock = some k → a.ownBlock ≠ some k) ∧ ∃ css : List (List Value), css.length = ms.length ∧ w.ownsRow base 25 75 v ms.length css.flatten ∧ ∀ j, j < ms.length → RIn w (ms.getD j (zeroM 0)) (css.getD j []) ∧ COff (ms.getD j (zeroM 0)) (css.getD j []) v.ownBlock ∧ COff (ms.getD j (zeroM 0)) (css.getD j []) a.ownBlock
theorem MRow.nil (w : World) (base : Nat) (a : Value) : MRow w base (.slice none 0 0) a [] := ⟨(fun k e => by cases e), [], rfl, World.ownsRow_nil w base _ 75, fun j hj => by simp at hj⟩
theorem MRow.below {w w' : World} {base : Nat} {v a : Value} {ms : List Msg} (h : MRow w base v a ms) (hb : Below w.heap.size w w') : MRow w' base v a ms := by
  obtain ⟨hap, css, hl, ho, hr⟩ := h
  exact ⟨hap, css, hl, ho.kept (grown_of_below hb none) (by cases e : v.ownBlock with | none => exact .inl rfl | some k => exact .inr (by simp)), fun j hj => ⟨(hr j hj).1.below hb, (hr j hj).2⟩⟩
theorem MRow.lt {w : World} {base : Nat} {v a : Value} {ms : List Msg} (h : MRow w base v a ms) : ∀ k, v.ownBlock = some k → base ≤ k ∧ k < w.heap.size := by
  obtain ⟨_, css, hl, ho, hr⟩ := h
  exact ho.lt
theorem coff_none (m : Msg) (cs : List Value) : COff m cs none := by intro _ _ _ _ _ _ e; cases e
theorem coff_or {w : World} {m : Msg} {cs : List Value} {r r' : Option Nat} (h : RIn w m cs) (hc : COff m cs r) (hr : r' = r ∨ ∃ k, r' = some k ∧ w.heap.size ≤ k) : COff m cs r' := by
  rcases hr with rfl | ⟨k, rfl, hk⟩
  · exact hc
  · exact h.coff hk
/-- The bytes grew. -/
theorem MRow.bytes {w w' : World} {base : Nat} {v a a' : Value} {ms : List Msg} (h : MRow w base v a ms) (hg : w.grownBy w' a.ownBlock) (ha : a'.ownBlock = a.ownBlock ∨ ∃ k, a'.ownBlock = some k ∧ w.heap.size ≤ k) : MRow w' base v a' ms := by
  have hlt := h.lt
  obtain ⟨hap, css, hl, ho, hr⟩ := h
  refine ⟨fun k hk => ?_, css, hl, ho.kept hg ?_, fun j hj => ⟨(hr j hj).1.grown hg (hr j hj).2.2, (hr j hj).2.1, coff_or (hr j hj).1 (hr j hj).2.2 ha⟩⟩
  · rcases ha with e | ⟨k', e, hk'⟩
    · rw [e]; exact hap k hk
    · rw [e]; intro e2; have := (hlt k hk).2; injection e2 with e2; omega
  · cases e : v.ownBlock with
    | none => exact .inl rfl
    | some k => exact .inr (fun e2 => hap k e e2.symm)
theorem MRow.slice {w : World} {base : Nat} {v a : Value} {ms : List Msg} (h : MRow w base v a ms) : MIn w v ms := by
  obtain ⟨_, css, hl, ho, hr⟩ := h
  have h75 : ∀ c ∈ css, c.length = 75 := fun c hc => by
    obtain ⟨j, hj, e⟩ := List.mem_iff_getElem.1 hc
    have := (hr j (by omega)).1.len
    rw [List.getD_eq_getElem?_getD, List.getElem?_eq_getElem hj, Option.getD_some, e] at this
    exact this
  rcases ho.2 with ⟨rfl, h0⟩ | ⟨g, cap, cur, rfl, hb, hg, hnc, hcm, hcs, ht⟩
  · exact ⟨none, 0, by rw [h0], by omega, fun h1 => by omega⟩
  · have hlt : g < w.heap.size := by
      rcases Nat.lt_or_ge g w.heap.size with hlt | hge
      · exact hlt
      · rw [Array.getElem?_eq_none hge] at hg; cases hg
    refine ⟨_, _, rfl, ⟨hnc, by simpa [maxLen] using hcm⟩, fun _ => ⟨g, 0, rfl, hlt, fun j hj => ⟨css.getD j [], fun i u hu => ?_, (hr j hj).1⟩⟩⟩
    have hi : i < 75 := by have := (List.getElem?_eq_some_iff.1 hu).1; rw [(hr j hj).1.len] at this; exact this
    have hfl := flat_get css h75 j i (by omega) hi
    rw [hu] at hfl
    have hjl : j * 75 + i < css.flatten.length := (List.getElem?_eq_some_iff.1 hfl).1
    rw [show 0 + j * 75 + i = j * 75 + i by omega, World.ownsRow.cellAt ho (j * 75 + i) (by have := ho.1; omega), hfl]
theorem infRb : ∃ bytes, (Tryd.prog.info? 25).map (fun i => (i.zero, i.size, i.bytes)) = some (some (.agg (mC (zeroM 0) (TX []) (TX []) (TX []) (TX []) (TX []) (.slice none 0 0)).toArray), 75, bytes) ∧ bytes ≤ 10000 := ⟨200, by kernel_rfl, by decide⟩
theorem step_append_msg {ops : Array Oper} {o : Oper} {a : Act} {w : World} {K : Act → World → Prop} {Q : Exit → Act → World → Prop} {E : Prop} (hgd : o.guard = none) (s x : Operand) (ho : o.op = .call { callee := .builtin .append, args := #[s, x], argTypes := #[48, 48] })
    (base : Nat) (v b : Value) (ms : List Msg) (m : Msg) (cs : List Value) (g : Nat) (hs : a.eval s = v) (hown : MRow w base v b ms) (hbl : ∀ k, b.ownBlock = some k → k < w.heap.size) (hbase : base ≤ w.heap.size) (hx : a.eval x = .slice (some ⟨g, 0, none⟩) 1 1) (hg : Blk w g 25 cs) (hm : RIn w m cs) (hoff : COff m cs v.ownBlock ∧ COff m cs b.ownBlock) (hn : ms.length + 1 ≤ 1000000)
    (h : ∀ v' w', MRow w' base v' b (ms ++ [m]) → w.grownBy w' v.ownBlock → K (a.put o.dst v') w') : if Region.wanted o (yielded ops a.tmps) = true then Oper.wp Tryd.prog o a w K Q else E := by
  obtain ⟨hap, css, hl, hown, hr⟩ := hown
  obtain ⟨bytes, hinf, hby⟩ := infRb
  refine step_append_own Tryd.underlying48 hinf rfl (by decide) hby hgd s x ho base v ms.length css.flatten hs hown hbase ⟨g, 0, none⟩ 1 1 hx cs (by rw [hm.len]) (fun j u hu => ?_) (fun u hu => ?_) hn (fun v' w' h2 h3 h4 => h v' w' ⟨fun k hk => ?_, css ++ [cs], by simp [hl], ?_, fun j hj => ?_⟩ h3)
  · have := hg.cell j
    rw [hu] at this
    rw [add_row, Nat.zero_add]
    exact this
  · have := hm.one
    rw [Array.all_eq_true_iff_forall_mem] at this
    exact this u (by simpa using hu)
  · rcases h4 with e | e
    · rw [e] at hk; exact hap k hk
    · rw [e] at hk; cases hk; intro e2; have := hbl _ e2; omega
  · rw [List.flatten_append, List.length_append]
    simpa using h2
  · have each : ∀ (m : Msg) (cs : List Value), RIn w m cs → COff m cs v.ownBlock ∧ COff m cs b.ownBlock → RIn w' m cs ∧ COff m cs v'.ownBlock ∧ COff m cs b.ownBlock := fun m cs h5 h6 => by
      refine ⟨h5.grown h3 h6.1, ?_, h6.2⟩
      rcases h4 with e | e
      · rw [e]; exact h6.1
      · rw [e]; exact h5.coff (Nat.le_refl _)
    rw [List.length_append] at hj
    by_cases hjl : j < ms.length
    · have := each _ _ (hr j hjl).1 (hr j hjl).2
      rw [List.getD_eq_getElem?_getD, List.getD_eq_getElem?_getD] at this ⊢
      rw [List.getElem?_append_left hjl, List.getElem?_append_left (by omega)]
      exact this
    · have e : j = ms.length := by simp at hj; omega
      subst e
      have := each _ _ hm hoff
      rw [List.getD_eq_getElem?_getD, List.getElem?_append_right (Nat.le_refl _), List.getD_eq_getElem?_getD, List.getElem?_append_right (by omega)]
      simpa [hl] using this
theorem BufV.lt {w : World} {base : Nat} {v : Value} {bs : List UInt8} (h : BufV w base v bs) : ∀ k, v.ownBlock = some k → k < w.heap.size := by
  obtain ⟨A, c, rfl, hb⟩ := h
  intro k hk
  rw [ownBlock_slice] at hk
  rcases hb.2 with ⟨rfl, _⟩ | ⟨k', rfl, _, hk', _⟩
  · cases hk
  · cases hk; exact hk'
theorem wp_appG {o : Oper} {a : Act} {w : World} {K : Act → World → Prop} {Q : Exit → Act → World → Prop} (s x : Operand) (ho : o.op = .call { callee := .builtin .append, args := #[s, x], argTypes := #[27, 27] })
    (base : Nat) (v y : Value) (bs ys : List UInt8) (hs : a.eval s = v) (hv : BufV w base v bs) (hx : a.eval x = y) (hy : SlV w y ys) (hn : bs.length + ys.length ≤ 1099511627776) (hbase : base ≤ w.heap.size)
    (h : ∀ v' w', BufV w' base v' (bs ++ ys) → Below base w w' → w.grownBy w' v.ownBlock → (v'.ownBlock = v.ownBlock ∨ ∃ k, v'.ownBlock = some k ∧ w.heap.size ≤ k) → K (a.put o.dst v') w') : o.wp Tryd.prog a w K Q := by
  obtain ⟨A, c, rfl, hb⟩ := hv
  obtain ⟨A2, c2, rfl, hi⟩ := hy
  obtain ⟨A', c', w', hr, h1, h2, _, h3⟩ := run_append_far 27 o.type base A bs.length c bs ys (.slice A2 ys.length c2) w hb (src_in' (hi.src (Nat.le_refl _))) hn hbase
  have e : bs.length + ys.length = (bs ++ ys).length := (List.length_append).symm
  rw [e] at hr h1
  have h' := h (.slice A' (bs ++ ys).length c') w' ⟨_, _, rfl, h1⟩ (below_own (Below.refl _ _) hb h2 (Nat.le_refl _) hbase) (by rw [ownBlock_slice]; exact h2) (by
    rw [ownBlock_slice, ownBlock_slice]
    rcases h3 with rfl | ⟨k, rfl, hk⟩
    · exact .inl rfl
    · exact .inr ⟨k, rfl, hk⟩)
  unfold Oper.wp execOp
  simp only [ho, resolve, invoke, builtin, Sem.run_bind, Sem.run_pure, Result.andThen_ok, List.map_toArray, List.map_cons, List.map_nil, hs, hx, hr]
  exact h'
theorem wp_oneMsg {o : Oper} {a : Act} {w : World} {K : Act → World → Prop} {Q : Exit → Act → World → Prop} (x : Operand) (ho : o.op = .buildSlice 48 1 #[(0, x)]) (cs : List Value) (hx : a.eval x = .agg cs.toArray) (h75 : cs.length = 75)
    (h : ∀ g w', g = w.heap.size → Blk w' g 25 cs → Below w.heap.size w w' → K (a.put o.dst (.slice (some ⟨g, 0, none⟩) 1 1)) w') : o.wp Tryd.prog a w K Q :=
  wp_builtS _ _ _ _ ho Tryd.underlying48 cs.toArray (by simp only [List.map_toArray, List.map_cons, List.map_nil, hx]; exact builtR1 cs h75) (h _ _ rfl (Blk.new w _ _) ((Below.refl _ _).alloc (Nat.le_refl _) _))
end Go.Proofs.YtagblbfbjemfhaaDoor
