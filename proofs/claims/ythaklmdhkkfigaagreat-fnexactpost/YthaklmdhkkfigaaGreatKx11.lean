import Derived.Test.YthaklmdhkkfigaaGreatXc
namespace Go.Proofs.YthaklmdhkkfigaaGreat
open Go.RowKit Go.Sort
set_option linter.unusedVariables false
attribute [local go_sem ↓] Go.wp_at_zero Go.wp_at_succ

/-- Records as the walk is told of them. -/
def RecsOf (w : World) (ao : Option Addr) (n : Nat) (rs : List (Int × Int × Int)) : Prop :=
  rs.length = n ∧ (0 < n → ∃ b off, ao = some ⟨b, off, none⟩ ∧ b < w.heap.size ∧ ∀ i, i < n → w.cell? ⟨b, off + i * 3, none⟩ = some (.int .i64 (rs.getD i (0, 0, 0)).1) ∧ w.cell? ⟨b, off + i * 3 + 1, none⟩ = some (.int .i64 (rs.getD i (0, 0, 0)).2.1) ∧ w.cell? ⟨b, off + i * 3 + 2, none⟩ = some (.int .i64 (rs.getD i (0, 0, 0)).2.2))
theorem RecsOf.below {w w' : World} {ao : Option Addr} {n : Nat} {rs : List (Int × Int × Int)} (h : RecsOf w ao n rs) (hb : Below w.heap.size w w') : RecsOf w' ao n rs :=
  ⟨h.1, fun hn => by
    obtain ⟨b, off, e, hlt, hc⟩ := h.2 hn
    refine ⟨b, off, e, Nat.lt_of_lt_of_le hlt hb.size, fun i hi => ?_⟩
    obtain ⟨h1, h2, h3⟩ := hc i hi
    exact ⟨(hb.cell (p := ⟨b, _, none⟩) hlt).trans h1, (hb.cell (p := ⟨b, _, none⟩) hlt).trans h2, (hb.cell (p := ⟨b, _, none⟩) hlt).trans h3⟩⟩
theorem rcC_get : ∀ (es : List (Int × Int × Int)) (k : Nat), k < es.length → (rcC es)[k * 3]? = some (.int .i64 (es.getD k (0, 0, 0)).1) ∧ (rcC es)[k * 3 + 1]? = some (.int .i64 (es.getD k (0, 0, 0)).2.1) ∧ (rcC es)[k * 3 + 2]? = some (.int .i64 (es.getD k (0, 0, 0)).2.2)
  | [], k, h => by simp at h
  | e :: r, 0, _ => ⟨rfl, rfl, rfl⟩
  | e :: r, k + 1, h => by
    obtain ⟨h1, h2, h3⟩ := rcC_get r k (by simpa using h)
    refine ⟨?_, ?_, ?_⟩
    · rw [show (k + 1) * 3 = k * 3 + 3 by omega]; simpa [rcC] using h1
    · rw [show (k + 1) * 3 + 1 = k * 3 + 1 + 3 by omega]; simpa [rcC] using h2
    · rw [show (k + 1) * 3 + 2 = k * 3 + 2 + 3 by omega]; simpa [rcC] using h3
theorem RcRow.recs {w : World} {B n cap : Nat} {ao : Option Addr} {rs : List (Int × Int × Int)} (h : RcRow w B (.slice ao n cap) rs) : RecsOf w ao n rs := by
  rcases h.2 with ⟨h0, h1⟩ | ⟨g, cap', cur, h1, h2, h3, h4⟩
  · simp only [Value.slice.injEq] at h0
    obtain ⟨rfl, rfl, rfl⟩ := h0
    exact ⟨h1, fun h => absurd h (by omega)⟩
  · simp only [Value.slice.injEq] at h1
    obtain ⟨rfl, rfl, rfl⟩ := h1
    refine ⟨rfl, fun hn => ⟨g, 0, rfl, lt_of_block h3, fun i hi => ?_⟩⟩
    obtain ⟨e1, e2, e3⟩ := rcC_get rs i hi
    have c1 := World.ownsRow.cells (g := g) h rfl _ _ e1
    have c2 := World.ownsRow.cells (g := g) h rfl _ _ e2
    have c3 := World.ownsRow.cells (g := g) h rfl _ _ e3
    rw [addr_plus] at c1 c2 c3
    exact ⟨c1, by rw [show 0 + i * 3 + 1 = 0 + (i * 3 + 1) by omega]; exact c2, by rw [show 0 + i * 3 + 2 = 0 + (i * 3 + 2) by omega]; exact c3⟩
/-- A kernel of nothing. -/
abbrev kd0 : KerD := ⟨[], [], [], [], [], []⟩
abbrev ks0 : KerS := ⟨none, 0, 0, none, 0, 0, none, 0, 0, none, 0, 0, none, 0, 0, none, 0, 0⟩
theorem ker0 (w : World) : KerOf w ks0 kd0 := ⟨⟨rfl, fun h => absurd h (by simp)⟩, ⟨rfl, fun h => absurd h (by simp)⟩, ⟨rfl, fun h => absurd h (by simp)⟩, ⟨rfl, fun h => absurd h (by simp)⟩, ⟨rfl, fun h => absurd h (by simp)⟩, ⟨rfl, fun h => absurd h (by simp)⟩⟩
/-- An event is put into a queue: what the kernel is then, and what is recorded. -/
def putK (os : List ObD) (k : KerD) (rs : List (Int × Int × Int)) (i : Nat) (x : Int × Int) : KerD × List (Int × Int × Int) :=
  if (os.getD i ob0).qcap ≤ ((k.qs.getD i []).length : Int) then (k, rs ++ [(2, (i : Int), x.1)]) else ({ k with qs := k.qs.set i (k.qs.getD i [] ++ [x]) }, rs)
def postK (sg : Int) (os : List ObD) (ts : List (Int × Int)) (k : KerD) (obj sig arg : Int) : KerD × List (Int × Int × Int) :=
  if kerB sg os ts k = true then (if (0 ≤ obj ∧ obj ≤ (os.length : Int) - 1) ∧ (0 ≤ sig ∧ sig ≤ sg - 1) then putK os k [] obj.toNat (sig, arg) else (k, [(4, -1, sig)])) else (kd0, [])
/-- What a call of the model answers. -/
def Ans (w w' : World) (e : Ending) (r : KerD × List (Int × Int × Int)) : Prop := ∃ (h' : KerS) (ra : Option Addr) (rn rc : Nat), e = .returned (.tuple #[kerV h', .slice ra rn rc]) ∧ KerOf w' h' r.1 ∧ KerMax h' ∧ RecsOf w' ra rn r.2 ∧ Below w.heap.size w w' ∧ ∃ (B C : Nat) (vs vq vd : List Value), (w.heap.size ≤ B ∧ w.heap.size ≤ C) ∧ Wk w' B (.slice h'.lo h'.ln h'.lc) (.slice h'.vo h'.vn h'.vc) (.slice h'.qo h'.qn h'.qc) (.slice h'.po h'.pn h'.pc) (.slice h'.eo h'.en h'.ec) (.slice h'.fo h'.fn h'.fc) r.1 vs vq vd ∧ RcRow w' C (.slice ra rn rc) r.2
theorem wk_nil (X : World) (B : Nat) : Wk X B nilV nilV nilV nilV nilV nilV kd0 [] [] [] :=
  ⟨World.ownsRow_nil _ _ _ _, ⟨World.ownsRow_nil _ _ _ _, rfl, fun i hi => by simp at hi⟩, ⟨World.ownsRow_nil _ _ _ _, rfl, fun i hi => by simp at hi⟩, ⟨World.ownsRow_nil _ _ _ _, rfl, fun i hi => by simp at hi⟩, World.ownsRow_nil _ _ _ _, World.ownsRow_nil _ _ _ _, fun b e => by simp [Value.ownBlock] at e, fun b e => by simp [Value.ownBlock] at e, fun b e => by simp [Value.ownBlock] at e, fun b e => by simp [Value.ownBlock] at e⟩
abbrev sysV (sg : Int) (eo xo : Option Addr) (en ec xn xc : Nat) : Value := .agg #[.int .i64 sg, .slice eo en ec, .slice xo xn xc]
set_option maxRecDepth 100000 in
set_option maxHeartbeats 1600000 in
theorem specPost_no (sg obj sig arg : Int) (eo xo : Option Addr) (en ec xn xc : Nat) (os : List ObD) (ts : List (Int × Int)) (h : KerS) (kd : KerD) (w : World) (hen : en ≤ 9223372036854775807) (hec : en ≤ ec) (hxn : xn ≤ 9223372036854775807) (hm : KerMax h) (he : ObsOf w eo en os) (hx : ItemsOf w xo xn ts) (hk : KerOf w h kd) (hno : kerB sg os ts kd = false) :
    Calls Tryz.prog 8 #[sysV sg eo xo en ec xn xc, kerV h, .int .i64 obj, .int .i64 sig, .int .i64 arg] w fun e w' => Ans w w' e (kd0, []) := by
  have HC := hid (fun W (hW : Below w.heap.size w W) => specKernelOK_any sg eo xo en ec xn xc os ts h kd W hen hec hxn hm (he.below hW) (hx.below hW) (hk.below hW))
  rw [hno] at HC
  obtain ⟨lo, ln, lc, vo, vn, vc, qo, qn, qc, po, pn, pc, fo, fn, fc, go, gn, gc⟩ := h
  unfold kerV at HC ⊢
  dsimp only at HC ⊢
  clear he hx hk hm hno
  have B3 := hid (below3 w (.cells #[.int .i64 sg, .slice eo en ec, .slice xo xn xc] 42) (.cells #[.slice lo ln lc, .slice vo vn vc, .slice qo qn qc, .slice po pn pc, .slice fo fn fc, .slice go gn gc] 35) OZ)
  go_enter Tryz.func8, Tryz.ntmps8
  go_wp2_with (go_at_call 29; with_reducible refine (HC.out _ B3.out).mono ?_; rintro e w1 ⟨rfl, hb⟩; have R1 := block_below (heap_alloc_new ((w.alloc (.cells #[.int .i64 sg, .slice eo en ec, .slice xo xn xc] 42)).alloc (.cells #[.slice lo ln lc, .slice vo vn vc, .slice qo qn qc, .slice po pn pc, .slice fo fn fc, .slice go gn gc] 35)) OZ) hb; simp only [World.size_alloc] at R1; obtain ⟨y0, y1, y2, y3, y4, y5⟩ := six_cells R1; obtain ⟨f0, f1, f2, f3, f4, f5⟩ := six_froz R1; have hl := lt_of_block R1; have RH := hid R1; have BB := hid (B3.out.trans (hb.mono B3.out.size)); clear R1 hb)
  have S6 := set6 (a := nilV) (b := nilV) (c := nilV) (d := nilV) (e := nilV) (f := nilV) RH.out BB.out (by omega)
  have SB := below1 (put6 w1 (w.heap.size + 1 + 1) nilV nilV nilV nilV nilV nilV) (.cells #[] 106)
  obtain ⟨q0, q1, q2, q3, q4, q5⟩ := six_cells (block_below S6.1 SB)
  refine bodyPost_ret (v := .tuple #[kerV ks0, .slice (some ⟨w1.heap.size, 0, none⟩) 0 0]) (by simp [results, Tryz.results8, go_sem, q0, q1, q2, q3, q4, q5, kerV]) rfl ?_
  have hs : (put6 w1 (w.heap.size + 1 + 1) nilV nilV nilV nilV nilV nilV).heap.size = w1.heap.size := by simp
  have RL := World.ownsRow_lit (put6 w1 (w.heap.size + 1 + 1) nilV nilV nilV nilV nilV nilV) (e := 106) (size := 3) (base := w.heap.size) #[] 0 S6.2.2.size (by decide) rfl
  rw [hs] at RL
  exact ⟨ks0, _, 0, 0, rfl, ker0 _, ⟨by simp, by simp, by simp, by simp, by simp, by simp⟩, ⟨rfl, fun h => absurd h (by simp)⟩, S6.2.2.trans (SB.mono S6.2.2.size), _, w.heap.size, [], [], [], ⟨Nat.le_refl _, Nat.le_refl _⟩, wk_nil _ _, RL⟩
theorem fits_put {k : KerD} {i : Nat} {q : List (Int × Int)} (hf : FitsKer k) (hq : q.length ≤ 1048576) : FitsKer { k with qs := k.qs.set i q } := by
  refine ⟨hf.fl, hf.fv, ⟨by simpa using hf.fq.1, fun j hj => ?_⟩, hf.fp, hf.fe, hf.ff⟩
  have hj' : j < k.qs.length := by simpa using hj
  by_cases e : i = j
  · subst e
    show ((k.qs.set i q).getD i []).length ≤ _
    rw [getD_set_eq hj']; exact hq
  · show ((k.qs.set i q).getD j []).length ≤ _
    rw [getD_set_ne e]; exact hf.fq.2 j hj'
theorem put6_far {X : World} {H b : Nat} {a c d e f g : Value} (h : b ≠ H) : (put6 X H a c d e f g).heap[b]? = X.heap[b]? := by
  rw [Below.heap_setCell _ _ _ _ h, Below.heap_setCell _ _ _ _ h, Below.heap_setCell _ _ _ _ h, Below.heap_setCell _ _ _ _ h, Below.heap_setCell _ _ _ _ h, Below.heap_setCell _ _ _ _ h]
theorem undrewK {w w' : World} (h : Below w.drew.heap.size w.drew w') : Below w.heap.size w w' := ⟨h.os, h.tape, h.output, h.size, h.block⟩
theorem wk_drew {X w : World} {L V Q D E F : Value} {k : KerD} {vs vq vd : List Value} (h : Wk X w.drew.heap.size L V Q D E F k vs vq vd) : Wk X w.heap.size L V Q D E F k vs vq vd := h
theorem Wk.box {X : World} {B : Nat} {sv ov tv L V Q D E F : Value} {k : KerD} {vs vq vd : List Value} (h : Wk X B L V Q D E F k vs vq vd) (hB : B ≤ X.heap.size) : Wb (X.alloc (.cells #[sv, ov, tv, L, V, Q, D, E, F, nilV] 65)) B X.heap.size sv ov tv L V Q D E F nilV k vs vq vd [] :=
  ⟨heap_alloc_new _ _, hB, h.below (below1 _ _), World.ownsRow_nil _ _ _ _⟩
set_option maxRecDepth 100000 in
set_option maxHeartbeats 3200000 in
theorem specPost_yes (sg obj sig arg : Int) (eo xo : Option Addr) (en ec xn xc : Nat) (os : List ObD) (ts : List (Int × Int)) (h : KerS) (kd : KerD) (w : World) (hen : en ≤ 9223372036854775807) (hec : en ≤ ec) (hxn : xn ≤ 9223372036854775807) (hm : KerMax h) (hf : FitsKer kd) (he : ObsOf w eo en os) (hx : ItemsOf w xo xn ts) (hk : KerOf w h kd) (hyes : kerB sg os ts kd = true) :
    Calls Tryz.prog 8 #[sysV sg eo xo en ec xn xc, kerV h, .int .i64 obj, .int .i64 sig, .int .i64 arg] w fun e w' => Ans w w' e (postK sg os ts kd obj sig arg) := by
  have HY := hid hyes
  have HC := hid (fun W (hW : Below w.heap.size w W) => specKernelOK_any sg eo xo en ec xn xc os ts h kd W hen hec hxn hm (he.below hW) (hx.below hW) (hk.below hW))
  rw [hyes] at HC
  have HK := hid (fun W (hW : Below w.heap.size w W) => l4Copy_any h kd W hf (hk.below hW))
  have HE : Hid (∀ W, Below w.heap.size w W → ObsOf W eo en os) := hid (fun W hW => he.below hW)
  have HO := hid he.1
  have HF := hid hf
  have KP : (sysFault sg os ts).1 = 0 ∧ lenP os ts kd := by unfold kerB at hyes; have := of_decide_eq_true hyes; exact ⟨this.1, this.2.1⟩
  have CN := sys_cnt KP.1
  have HQ := hid KP.2.1.2.2.1
  obtain ⟨⟨sg1, sg2⟩, ⟨on1, on2⟩, _⟩ := CN
  rw [he.1] at on1 on2
  obtain ⟨lo, ln, lc, vo, vn, vc, qo, qn, qc, po, pn, pc, fo, fn, fc, go, gn, gc⟩ := h
  unfold kerV at HC HK ⊢
  dsimp only at HC HK ⊢
  clear he hx hk hm hyes KP hf
  have B3 := hid (below3 w (.cells #[.int .i64 sg, .slice eo en ec, .slice xo xn xc] 42) (.cells #[.slice lo ln lc, .slice vo vn vc, .slice qo qn qc, .slice po pn pc, .slice fo fn fc, .slice go gn gc] 35) OZ)
  go_enter Tryz.func8, Tryz.ntmps8
  go_upto_region 3 with (go_at_call 29; with_reducible refine (HC.out _ B3.out).mono ?_; rintro e w1 ⟨rfl, hb⟩; have R1 := block_below (heap_alloc_new ((w.alloc (.cells #[.int .i64 sg, .slice eo en ec, .slice xo xn xc] 42)).alloc (.cells #[.slice lo ln lc, .slice vo vn vc, .slice qo qn qc, .slice po pn pc, .slice fo fn fc, .slice go gn gc] 35)) OZ) hb; have R2 := block_below (block_below (heap_alloc_new (w.alloc (.cells #[.int .i64 sg, .slice eo en ec, .slice xo xn xc] 42)) (.cells #[.slice lo ln lc, .slice vo vn vc, .slice qo qn qc, .slice po pn pc, .slice fo fn fc, .slice go gn gc] 35)) (below1 _ OZ)) hb; have R3 := block_below (block_below (heap_alloc_new w (.cells #[.int .i64 sg, .slice eo en ec, .slice xo xn xc] 42)) (below2 _ _ _)) hb; simp only [World.size_alloc] at R1 R2; have RH := hid R1; have RK := hid R2; have RS := hid R3; have BB := hid (B3.out.trans (hb.mono B3.out.size)); clear R1 R2 R3 hb)
  obtain ⟨k0, k1, k2, k3, k4, k5⟩ := six_cells RK.out
  obtain ⟨s0, s1, s2⟩ := three_cells RS.out
  have rl := lt_of_block RH.out
  go_region_held3 (fun X => (X.cell? ⟨w.heap.size, 0, none⟩ = some (.int .i64 sg) ∧ X.cell? ⟨w.heap.size, 1, none⟩ = some (.slice eo en ec) ∧ X.cell? ⟨w.heap.size, 2, none⟩ = some (.slice xo xn xc)) ∧ (X.cell? ⟨w.heap.size + 1, 0, none⟩ = some (.slice lo ln lc) ∧ X.cell? ⟨w.heap.size + 1, 1, none⟩ = some (.slice vo vn vc) ∧ X.cell? ⟨w.heap.size + 1, 2, none⟩ = some (.slice qo qn qc) ∧ X.cell? ⟨w.heap.size + 1, 3, none⟩ = some (.slice po pn pc) ∧ X.cell? ⟨w.heap.size + 1, 4, none⟩ = some (.slice fo fn fc) ∧ X.cell? ⟨w.heap.size + 1, 5, none⟩ = some (.slice go gn gc))) (first | (with_reducible exact SX.out) | (with_reducible exact SZ.out _) | go_keep)
    (first
      | (go_at_call 30; with_reducible refine (HK.out _ BB.out.drew).mono ?_; rintro e w2 ⟨⟨lo', ln', lc', vo', vn', vc', qo', qn', qc', po', pn', pc', eo', en', ec', fo', fn', fc'⟩, vs, vq, vd, rfl, hwk, hb⟩; dsimp only at hwk ⊢; have hb' := undrewK hb; have WK2 := hid (wk_drew hwk); have B2 := hid hb'; have RH2 := hid (block_below RH.out hb'); have RS2 := hid (block_below RS.out hb'); have RK2 := hid (block_below RK.out hb'); have SX := hid (And.intro (three_cells RS2.out) (six_cells RK2.out)); have SZ : Hid (∀ o, _ ∧ _) := hid (fun o => And.intro (three_cells (block_below RS2.out (below1 w2 o))) (six_cells (block_below RK2.out (below1 w2 o)))); clear hwk hb hb'))
  clear SZ SX k0 k1 k2 k3 k4 k5 s0 s1 s2
  obtain ⟨HB, hHB⟩ : ∃ HB, HB = w2.heap.size := ⟨_, rfl⟩
  obtain ⟨X3, hX3⟩ : ∃ X3, X3 = w2.alloc (.cells #[.int .i64 sg, .slice eo en ec, .slice xo xn xc, .slice lo' ln' lc', .slice vo' vn' vc', .slice qo' qn' qc', .slice po' pn' pc', .slice eo' en' ec', .slice fo' fn' fc', .slice none 0 0] 65) := ⟨_, rfl⟩
  have W3 : Hid (Wb X3 w1.heap.size HB (.int .i64 sg) (.slice eo en ec) (.slice xo xn xc) (.slice lo' ln' lc') (.slice vo' vn' vc') (.slice qo' qn' qc') (.slice po' pn' pc') (.slice eo' en' ec') (.slice fo' fn' fc') nilV kd vs vq vd []) := hid (by rw [hX3, hHB]; exact WK2.out.box B2.out.size)
  have B3x : Hid (Below w2.heap.size w2 X3) := hid (by rw [hX3]; exact below1 _ _)
  have RH3 := hid (block_below RH2.out B3x.out)
  have RS3 := hid (block_below RS2.out B3x.out)
  have B13 := hid (B2.out.trans (B3x.out.mono B2.out.size))
  have s3 := hid B13.out.size
  rw [← hX3, ← hHB]
  clear hX3 hHB
  obtain ⟨s0, s1, s2⟩ := three_cells RS3.out
  have sl := lt_of_block RS3.out
  have hHl := lt_of_block W3.out.o
  have ok0 : Hid (postK sg os ts kd obj sig arg = if (0 ≤ obj ∧ obj ≤ (en : Int) - 1) ∧ (0 ≤ sig ∧ sig ≤ sg - 1) then putK os kd [] obj.toNat (sig, arg) else (kd, [(4, -1, sig)])) := hid (by unfold postK; rw [if_pos HY.out, HO.out])
  have CN := hid (note_any w1.heap.size HB (.int .i64 sg) (.slice eo en ec) (.slice xo xn xc) (.slice lo' ln' lc') (.slice vo' vn' vc') (.slice qo' qn' qc') (.slice po' pn' pc') (.slice eo' en' ec') (.slice fo' fn' fc') nilV kd vs vq vd [] 4 (-1) sig X3 s3.out (by simp) W3.out)
  have CQ := hid (fun i hi => ob_caps HY.out (i := i) hi)
  by_cases h1 : 0 ≤ obj ∧ obj ≤ (en : Int) - 1
  · have C1 := hid (l1Between_any obj 0 ((en : Int) - 1))
    rw [show betB obj 0 ((en : Int) - 1) = true from (betB_yes h1).symm] at C1
    by_cases h2 : 0 ≤ sig ∧ sig ≤ sg - 1
    · have C2 := hid (l1Between_any sig 0 (sg - 1))
      rw [show betB sig 0 (sg - 1) = true from (betB_yes h2).symm] at C2
      have ok1 := ok0.out
      rw [if_pos ⟨h1, h2⟩] at ok1
      obtain ⟨i, hi⟩ : ∃ i : Nat, obj = (i : Int) := ⟨obj.toNat, by omega⟩
      subst hi
      rw [Int.toNat_natCast] at ok1
      have ie : i < en := by omega
      have iq : i < kd.qs.length := by rw [HQ.out, HO.out]; exact ie
      have io : i < os.length := by rw [HO.out]; exact ie
      obtain ⟨ob, off, heo, hobl, hoc⟩ := (HE.out X3 (BB.out.trans (B13.out.mono BB.out.size))).2 (by omega)
      subst heo
      obtain ⟨os1, ⟨_, oc1, _, _, _, _, _, _⟩, _, _⟩ := hoc i ie
      obtain ⟨gq, capq, eq, hgq, _⟩ := World.ownsRow.form W3.out.wk.q.row (by rw [W3.out.wk.q.len]; omega)
      simp only [Value.slice.injEq] at eq
      obtain ⟨rfl, hqn9, rfl⟩ := eq
      clear hqn9
      have hql := HF.out.fq.2 i iq
      have hcap := CQ.out i io
      by_cases hfull : (os.getD i ob0).qcap ≤ ((kd.qs.getD i []).length : Int)
      · have CP := hid (put_full w1.heap.size HB gq qn' qc' ob off en ec (.int .i64 sg) (.slice xo xn xc) (.slice lo' ln' lc') (.slice vo' vn' vc') (.slice po' pn' pc') (.slice eo' en' ec') (.slice fo' fn' fc') nilV kd vs vq vd [] i sig arg (os.getD i ob0).qcap X3 s3.out (by simp) iq HF.out.fq.1 ie hql (by omega) oc1 hfull W3.out)
        have PK : Hid (postK sg os ts kd i sig arg = (kd, [(2, (i : Int), sig)])) := hid (by rw [ok1]; unfold putK; rw [if_pos hfull]; rfl)
        clear h1 h2 ok1 oc1 hoc hfull hcap hql CQ ok0
        go_upto_region 7 with (first
          | (go_at_call 31; first | (with_reducible refine (C1.out _).mono ?_; rintro e w4 ⟨rfl, hw4⟩; obtain rfl := hw4.symm) | (with_reducible refine (C2.out _).mono ?_; rintro e w5 ⟨rfl, hw5⟩; obtain rfl := hw5.symm))
          | (go_at_call 33; with_reducible refine CP.out.mono ?_; rintro e w6 ⟨rfl, ra, rn, rc, hw, hb⟩; have W6 := hid hw; have B6 := hid hb; clear hw hb))
        have CK := hid (l4Copy_any ⟨lo', ln', lc', vo', vn', vc', (some ⟨gq, 0, none⟩), qn', qc', po', pn', pc', eo', en', ec', fo', fn', fc'⟩ kd w6.drew HF.out (W6.out.wk.ker (h := ⟨lo', ln', lc', vo', vn', vc', (some ⟨gq, 0, none⟩), qn', qc', po', pn', pc', eo', en', ec', fo', fn', fc'⟩) |>.below (Below.refl _ _).drew))
        unfold kerV at CK
        dsimp only at CK
        have RH6 := hid ((B6.out.block _ rl).trans RH3.out)
        have hB6 := hid (Nat.le_trans s3.out B6.out.size)
        have ne1 : ¬ HB = w.heap.size + 1 + 1 := by have := W3.out.hH; omega
        have ne2 : ¬ w.heap.size + 1 + 1 = HB := by omega
        obtain ⟨_, ⟨t3, t4, t5, t6, t7, t8⟩, t9⟩ := ten_cells W6.out.o
        have hH6 := lt_of_block W6.out.o
        clear CP CN C1 C2 HC HK HE
        go_region_held3 (fun X => (X.cell? ⟨HB, 3, none⟩ = some (.slice lo' ln' lc') ∧ X.cell? ⟨HB, 4, none⟩ = some (.slice vo' vn' vc') ∧ X.cell? ⟨HB, 5, none⟩ = some (.slice (some ⟨gq, 0, none⟩) qn' qc') ∧ X.cell? ⟨HB, 6, none⟩ = some (.slice po' pn' pc') ∧ X.cell? ⟨HB, 7, none⟩ = some (.slice eo' en' ec') ∧ X.cell? ⟨HB, 8, none⟩ = some (.slice fo' fn' fc')) ∧ X.cell? ⟨HB, 9, none⟩ = some (.slice ra rn rc)) (first | (with_reducible exact SX.out) | go_keep)
          (first | (go_at_call 30; with_reducible refine CK.out.mono ?_; rintro e w7 ⟨⟨l7, l7n, l7c, v7, v7n, v7c, q7, q7n, q7c, p7, p7n, p7c, e7, e7n, e7c, f7, f7n, f7c⟩, vs7, vq7, vd7, rfl, hwk, hb⟩; dsimp only at hwk ⊢; have B7 := hid (undrewK hb); have K7 := hid (And.intro (hwk.ker (h := ⟨l7, l7n, l7c, v7, v7n, v7c, q7, q7n, q7c, p7, p7n, p7c, e7, e7n, e7c, f7, f7n, f7c⟩)) (hwk.max (h := ⟨l7, l7n, l7c, v7, v7n, v7c, q7, q7n, q7c, p7, p7n, p7c, e7, e7n, e7c, f7, f7n, f7c⟩))); have WK7 := hid (wk_drew hwk); have SX := hid (ten_cells (block_below W6.out.o B7.out)).2; have R7 := hid (block_below RH6.out B7.out); obtain ⟨x0, x1, x2, x3, x4, x5⟩ := six_cells R7.out; obtain ⟨z0, z1, z2, z3, z4, z5⟩ := six_froz R7.out; have rl7 := lt_of_block R7.out; have WR := hid (ownsRow_below W6.out.r B7.out); clear hwk hb))
        all_goals
          go_wp2
          have bw6 : Below w1.heap.size w1 w6 := B13.out.trans B6.out
          have bw7 : Below w.heap.size w w7 := BB.out.trans ((bw6.trans (B7.out.mono bw6.size)).mono BB.out.size)
          have S6 := set6 (a := .slice l7 l7n l7c) (b := .slice v7 v7n v7c) (c := .slice q7 q7n q7c) (d := .slice p7 p7n p7c) (e := .slice e7 e7n e7c) (f := .slice f7 f7n f7c) R7.out bw7 (by omega)
          obtain ⟨n0, n1, n2, n3, n4, n5⟩ := six_cells S6.1
          have G7 := WK7.out.kp S6.2.1 (fun _ h => h)
          have GR := row_same (w' := put6 w7 (w.heap.size + 1 + 1) (.slice l7 l7n l7c) (.slice v7 v7n v7c) (.slice q7 q7n q7c) (.slice p7 p7n p7c) (.slice e7 e7n e7c) (.slice f7 f7n f7c)) WR.out (fun b _ e => put6_far (fun e2 => own_far2 WR.out (by decide) R7.out (by rw [e, e2])))
          refine bodyPost_ret (v := .tuple #[kerV ⟨l7, l7n, l7c, v7, v7n, v7c, q7, q7n, q7c, p7, p7n, p7c, e7, e7n, e7c, f7, f7n, f7c⟩, .slice ra rn rc]) (by simp [results, Tryz.results8, go_sem, n0, n1, n2, n3, n4, n5, kerV]) rfl ?_
          rw [PK.out]
          exact ⟨⟨l7, l7n, l7c, v7, v7n, v7c, q7, q7n, q7c, p7, p7n, p7c, e7, e7n, e7c, f7, f7n, f7c⟩, ra, rn, rc, rfl, G7.ker (h := ⟨l7, l7n, l7c, v7, v7n, v7c, q7, q7n, q7c, p7, p7n, p7c, e7, e7n, e7c, f7, f7n, f7c⟩), G7.max (h := ⟨l7, l7n, l7c, v7, v7n, v7c, q7, q7n, q7c, p7, p7n, p7c, e7, e7n, e7c, f7, f7n, f7c⟩), RcRow.recs GR, S6.2.2, _, _, vs7, vq7, vd7, ⟨Nat.le_trans BB.out.size bw6.size, BB.out.size⟩, G7, GR⟩
      · have hlt2 : (kd.qs.getD i []).length + 1 ≤ 1000 := by have := hcap.1.2; omega
        have CP := hid (put_room w1.heap.size HB gq qn' qc' ob off en ec (.int .i64 sg) (.slice xo xn xc) (.slice lo' ln' lc') (.slice vo' vn' vc') (.slice po' pn' pc') (.slice eo' en' ec') (.slice fo' fn' fc') nilV kd vs vq vd [] i sig arg (os.getD i ob0).qcap X3 s3.out iq HF.out.fq.1 ie hql (by omega) oc1 hfull W3.out)
        obtain ⟨k2, hk2⟩ : ∃ k2 : KerD, k2 = { kd with qs := kd.qs.set i (kd.qs.getD i [] ++ [(sig, arg)]) } := ⟨_, rfl⟩
        have PK : Hid (postK sg os ts kd i sig arg = (k2, [])) := hid (by rw [ok1, hk2]; unfold putK; rw [if_neg hfull])
        have F2 : Hid (FitsKer k2) := hid (by rw [hk2]; exact fits_put HF.out (by rw [List.length_append]; simp only [List.length_cons, List.length_nil]; omega))
        rw [← hk2] at CP
        obtain ⟨ra, rn, rc, hr9⟩ : ∃ (ra : Option Addr) (rn rc : Nat), (ra = none ∧ rn = 0 ∧ rc = 0) := ⟨_, _, _, rfl, rfl, rfl⟩
        have N9 : Hid (nilV = .slice ra rn rc) := hid (by obtain ⟨rfl, rfl, rfl⟩ := hr9; rfl)
        rw [N9.out] at CP
        clear h1 h2 ok1 oc1 hoc hfull hcap hql CQ ok0 hlt2 hk2 hr9
        go_upto_region 7 with (first
          | (go_at_call 31; first | (with_reducible refine (C1.out _).mono ?_; rintro e w4 ⟨rfl, hw4⟩; obtain rfl := hw4.symm) | (with_reducible refine (C2.out _).mono ?_; rintro e w5 ⟨rfl, hw5⟩; obtain rfl := hw5.symm))
          | (go_at_call 33; with_reducible refine CP.out.mono ?_; rintro e w6 ⟨rfl, ⟨x6, hw⟩, hb⟩; have W6 := hid hw; have B6 := hid hb; clear hw hb))
        have CK := hid (l4Copy_any ⟨lo', ln', lc', vo', vn', vc', (some ⟨gq, 0, none⟩), qn', qc', po', pn', pc', eo', en', ec', fo', fn', fc'⟩ k2 w6.drew F2.out (W6.out.wk.ker (h := ⟨lo', ln', lc', vo', vn', vc', (some ⟨gq, 0, none⟩), qn', qc', po', pn', pc', eo', en', ec', fo', fn', fc'⟩) |>.below (Below.refl _ _).drew))
        unfold kerV at CK
        dsimp only at CK
        have RH6 := hid ((B6.out.block _ rl).trans RH3.out)
        have hB6 := hid (Nat.le_trans s3.out B6.out.size)
        have ne1 : ¬ HB = w.heap.size + 1 + 1 := by have := W3.out.hH; omega
        have ne2 : ¬ w.heap.size + 1 + 1 = HB := by omega
        obtain ⟨_, ⟨t3, t4, t5, t6, t7, t8⟩, t9⟩ := ten_cells W6.out.o
        have hH6 := lt_of_block W6.out.o
        clear CP CN C1 C2 HC HK HE
        go_region_held3 (fun X => (X.cell? ⟨HB, 3, none⟩ = some (.slice lo' ln' lc') ∧ X.cell? ⟨HB, 4, none⟩ = some (.slice vo' vn' vc') ∧ X.cell? ⟨HB, 5, none⟩ = some (.slice (some ⟨gq, 0, none⟩) qn' qc') ∧ X.cell? ⟨HB, 6, none⟩ = some (.slice po' pn' pc') ∧ X.cell? ⟨HB, 7, none⟩ = some (.slice eo' en' ec') ∧ X.cell? ⟨HB, 8, none⟩ = some (.slice fo' fn' fc')) ∧ X.cell? ⟨HB, 9, none⟩ = some (.slice ra rn rc)) (first | (with_reducible exact SX.out) | go_keep)
          (first | (go_at_call 30; with_reducible refine CK.out.mono ?_; rintro e w7 ⟨⟨l7, l7n, l7c, v7, v7n, v7c, q7, q7n, q7c, p7, p7n, p7c, e7, e7n, e7c, f7, f7n, f7c⟩, vs7, vq7, vd7, rfl, hwk, hb⟩; dsimp only at hwk ⊢; have B7 := hid (undrewK hb); have K7 := hid (And.intro (hwk.ker (h := ⟨l7, l7n, l7c, v7, v7n, v7c, q7, q7n, q7c, p7, p7n, p7c, e7, e7n, e7c, f7, f7n, f7c⟩)) (hwk.max (h := ⟨l7, l7n, l7c, v7, v7n, v7c, q7, q7n, q7c, p7, p7n, p7c, e7, e7n, e7c, f7, f7n, f7c⟩))); have WK7 := hid (wk_drew hwk); have SX := hid (ten_cells (block_below W6.out.o B7.out)).2; have R7 := hid (block_below RH6.out B7.out); obtain ⟨x0, x1, x2, x3, x4, x5⟩ := six_cells R7.out; obtain ⟨z0, z1, z2, z3, z4, z5⟩ := six_froz R7.out; have rl7 := lt_of_block R7.out; have WR := hid (ownsRow_below W6.out.r B7.out); clear hwk hb))
        all_goals
          go_wp2
          have bw6 : Below w1.heap.size w1 w6 := B13.out.trans B6.out
          have bw7 : Below w.heap.size w w7 := BB.out.trans ((bw6.trans (B7.out.mono bw6.size)).mono BB.out.size)
          have S6 := set6 (a := .slice l7 l7n l7c) (b := .slice v7 v7n v7c) (c := .slice q7 q7n q7c) (d := .slice p7 p7n p7c) (e := .slice e7 e7n e7c) (f := .slice f7 f7n f7c) R7.out bw7 (by omega)
          obtain ⟨n0, n1, n2, n3, n4, n5⟩ := six_cells S6.1
          have G7 := WK7.out.kp S6.2.1 (fun _ h => h)
          have GR := row_same (w' := put6 w7 (w.heap.size + 1 + 1) (.slice l7 l7n l7c) (.slice v7 v7n v7c) (.slice q7 q7n q7c) (.slice p7 p7n p7c) (.slice e7 e7n e7c) (.slice f7 f7n f7c)) WR.out (fun b _ e => put6_far (fun e2 => own_far2 WR.out (by decide) R7.out (by rw [e, e2])))
          refine bodyPost_ret (v := .tuple #[kerV ⟨l7, l7n, l7c, v7, v7n, v7c, q7, q7n, q7c, p7, p7n, p7c, e7, e7n, e7c, f7, f7n, f7c⟩, .slice ra rn rc]) (by simp [results, Tryz.results8, go_sem, n0, n1, n2, n3, n4, n5, kerV]) rfl ?_
          rw [PK.out]
          exact ⟨⟨l7, l7n, l7c, v7, v7n, v7c, q7, q7n, q7c, p7, p7n, p7c, e7, e7n, e7c, f7, f7n, f7c⟩, ra, rn, rc, rfl, G7.ker (h := ⟨l7, l7n, l7c, v7, v7n, v7c, q7, q7n, q7c, p7, p7n, p7c, e7, e7n, e7c, f7, f7n, f7c⟩), G7.max (h := ⟨l7, l7n, l7c, v7, v7n, v7c, q7, q7n, q7c, p7, p7n, p7c, e7, e7n, e7c, f7, f7n, f7c⟩), RcRow.recs GR, S6.2.2, _, _, vs7, vq7, vd7, ⟨Nat.le_trans BB.out.size bw6.size, BB.out.size⟩, G7, GR⟩
    · have C2 := hid (l1Between_any sig 0 (sg - 1))
      rw [show betB sig 0 (sg - 1) = false from (betB_not h2).symm] at C2
      have PK : Hid (postK sg os ts kd obj sig arg = (kd, [(4, -1, sig)])) := hid (by rw [ok0.out, if_neg (fun h => h2 h.2)])
      have CP := hid True.intro
      clear h1 h2 CQ ok0
      go_upto_region 7 with (first
        | (go_at_call 31; first | (with_reducible refine (C1.out _).mono ?_; rintro e w4 ⟨rfl, hw4⟩; obtain rfl := hw4.symm) | (with_reducible refine (C2.out _).mono ?_; rintro e w5 ⟨rfl, hw5⟩; obtain rfl := hw5.symm))
        | (go_at_call 32; with_reducible refine CN.out.mono ?_; rintro e w6 ⟨rfl, ra, rn, rc, hw, hb⟩; have W6 := hid hw; have B6 := hid hb; clear hw hb))
      have CK := hid (l4Copy_any ⟨lo', ln', lc', vo', vn', vc', qo', qn', qc', po', pn', pc', eo', en', ec', fo', fn', fc'⟩ kd w6.drew HF.out (W6.out.wk.ker (h := ⟨lo', ln', lc', vo', vn', vc', qo', qn', qc', po', pn', pc', eo', en', ec', fo', fn', fc'⟩) |>.below (Below.refl _ _).drew))
      unfold kerV at CK
      dsimp only at CK
      have RH6 := hid ((B6.out.block _ rl).trans RH3.out)
      have hB6 := hid (Nat.le_trans s3.out B6.out.size)
      have ne1 : ¬ HB = w.heap.size + 1 + 1 := by have := W3.out.hH; omega
      have ne2 : ¬ w.heap.size + 1 + 1 = HB := by omega
      obtain ⟨_, ⟨t3, t4, t5, t6, t7, t8⟩, t9⟩ := ten_cells W6.out.o
      have hH6 := lt_of_block W6.out.o
      clear CP CN C1 C2 HC HK HE
      go_region_held3 (fun X => (X.cell? ⟨HB, 3, none⟩ = some (.slice lo' ln' lc') ∧ X.cell? ⟨HB, 4, none⟩ = some (.slice vo' vn' vc') ∧ X.cell? ⟨HB, 5, none⟩ = some (.slice qo' qn' qc') ∧ X.cell? ⟨HB, 6, none⟩ = some (.slice po' pn' pc') ∧ X.cell? ⟨HB, 7, none⟩ = some (.slice eo' en' ec') ∧ X.cell? ⟨HB, 8, none⟩ = some (.slice fo' fn' fc')) ∧ X.cell? ⟨HB, 9, none⟩ = some (.slice ra rn rc)) (first | (with_reducible exact SX.out) | go_keep)
        (first | (go_at_call 30; with_reducible refine CK.out.mono ?_; rintro e w7 ⟨⟨l7, l7n, l7c, v7, v7n, v7c, q7, q7n, q7c, p7, p7n, p7c, e7, e7n, e7c, f7, f7n, f7c⟩, vs7, vq7, vd7, rfl, hwk, hb⟩; dsimp only at hwk ⊢; have B7 := hid (undrewK hb); have K7 := hid (And.intro (hwk.ker (h := ⟨l7, l7n, l7c, v7, v7n, v7c, q7, q7n, q7c, p7, p7n, p7c, e7, e7n, e7c, f7, f7n, f7c⟩)) (hwk.max (h := ⟨l7, l7n, l7c, v7, v7n, v7c, q7, q7n, q7c, p7, p7n, p7c, e7, e7n, e7c, f7, f7n, f7c⟩))); have WK7 := hid (wk_drew hwk); have SX := hid (ten_cells (block_below W6.out.o B7.out)).2; have R7 := hid (block_below RH6.out B7.out); obtain ⟨x0, x1, x2, x3, x4, x5⟩ := six_cells R7.out; obtain ⟨z0, z1, z2, z3, z4, z5⟩ := six_froz R7.out; have rl7 := lt_of_block R7.out; have WR := hid (ownsRow_below W6.out.r B7.out); clear hwk hb))
      all_goals
        go_wp2
        have bw6 : Below w1.heap.size w1 w6 := B13.out.trans B6.out
        have bw7 : Below w.heap.size w w7 := BB.out.trans ((bw6.trans (B7.out.mono bw6.size)).mono BB.out.size)
        have S6 := set6 (a := .slice l7 l7n l7c) (b := .slice v7 v7n v7c) (c := .slice q7 q7n q7c) (d := .slice p7 p7n p7c) (e := .slice e7 e7n e7c) (f := .slice f7 f7n f7c) R7.out bw7 (by omega)
        obtain ⟨n0, n1, n2, n3, n4, n5⟩ := six_cells S6.1
        have G7 := WK7.out.kp S6.2.1 (fun _ h => h)
        have GR := row_same (w' := put6 w7 (w.heap.size + 1 + 1) (.slice l7 l7n l7c) (.slice v7 v7n v7c) (.slice q7 q7n q7c) (.slice p7 p7n p7c) (.slice e7 e7n e7c) (.slice f7 f7n f7c)) WR.out (fun b _ e => put6_far (fun e2 => own_far2 WR.out (by decide) R7.out (by rw [e, e2])))
        refine bodyPost_ret (v := .tuple #[kerV ⟨l7, l7n, l7c, v7, v7n, v7c, q7, q7n, q7c, p7, p7n, p7c, e7, e7n, e7c, f7, f7n, f7c⟩, .slice ra rn rc]) (by simp [results, Tryz.results8, go_sem, n0, n1, n2, n3, n4, n5, kerV]) rfl ?_
        rw [PK.out]
        exact ⟨⟨l7, l7n, l7c, v7, v7n, v7c, q7, q7n, q7c, p7, p7n, p7c, e7, e7n, e7c, f7, f7n, f7c⟩, ra, rn, rc, rfl, G7.ker (h := ⟨l7, l7n, l7c, v7, v7n, v7c, q7, q7n, q7c, p7, p7n, p7c, e7, e7n, e7c, f7, f7n, f7c⟩), G7.max (h := ⟨l7, l7n, l7c, v7, v7n, v7c, q7, q7n, q7c, p7, p7n, p7c, e7, e7n, e7c, f7, f7n, f7c⟩), RcRow.recs GR, S6.2.2, _, _, vs7, vq7, vd7, ⟨Nat.le_trans BB.out.size bw6.size, BB.out.size⟩, G7, GR⟩
  · have C1 := hid (l1Between_any obj 0 ((en : Int) - 1))
    rw [show betB obj 0 ((en : Int) - 1) = false from (betB_not h1).symm] at C1
    have PK : Hid (postK sg os ts kd obj sig arg = (kd, [(4, -1, sig)])) := hid (by rw [ok0.out, if_neg (fun h => h1 h.1)])
    have CP := hid True.intro
    have C2 := hid True.intro
    clear h1 CQ ok0
    go_upto_region 7 with (first
      | (go_at_call 31; with_reducible refine (C1.out _).mono ?_; rintro e w4 ⟨rfl, hw4⟩; obtain rfl := hw4.symm)
      | (go_at_call 32; with_reducible refine CN.out.mono ?_; rintro e w6 ⟨rfl, ra, rn, rc, hw, hb⟩; have W6 := hid hw; have B6 := hid hb; clear hw hb))
    have CK := hid (l4Copy_any ⟨lo', ln', lc', vo', vn', vc', qo', qn', qc', po', pn', pc', eo', en', ec', fo', fn', fc'⟩ kd w6.drew HF.out (W6.out.wk.ker (h := ⟨lo', ln', lc', vo', vn', vc', qo', qn', qc', po', pn', pc', eo', en', ec', fo', fn', fc'⟩) |>.below (Below.refl _ _).drew))
    unfold kerV at CK
    dsimp only at CK
    have RH6 := hid ((B6.out.block _ rl).trans RH3.out)
    have hB6 := hid (Nat.le_trans s3.out B6.out.size)
    have ne1 : ¬ HB = w.heap.size + 1 + 1 := by have := W3.out.hH; omega
    have ne2 : ¬ w.heap.size + 1 + 1 = HB := by omega
    obtain ⟨_, ⟨t3, t4, t5, t6, t7, t8⟩, t9⟩ := ten_cells W6.out.o
    have hH6 := lt_of_block W6.out.o
    clear CP CN C1 C2 HC HK HE
    go_region_held3 (fun X => (X.cell? ⟨HB, 3, none⟩ = some (.slice lo' ln' lc') ∧ X.cell? ⟨HB, 4, none⟩ = some (.slice vo' vn' vc') ∧ X.cell? ⟨HB, 5, none⟩ = some (.slice qo' qn' qc') ∧ X.cell? ⟨HB, 6, none⟩ = some (.slice po' pn' pc') ∧ X.cell? ⟨HB, 7, none⟩ = some (.slice eo' en' ec') ∧ X.cell? ⟨HB, 8, none⟩ = some (.slice fo' fn' fc')) ∧ X.cell? ⟨HB, 9, none⟩ = some (.slice ra rn rc)) (first | (with_reducible exact SX.out) | go_keep)
      (first | (go_at_call 30; with_reducible refine CK.out.mono ?_; rintro e w7 ⟨⟨l7, l7n, l7c, v7, v7n, v7c, q7, q7n, q7c, p7, p7n, p7c, e7, e7n, e7c, f7, f7n, f7c⟩, vs7, vq7, vd7, rfl, hwk, hb⟩; dsimp only at hwk ⊢; have B7 := hid (undrewK hb); have K7 := hid (And.intro (hwk.ker (h := ⟨l7, l7n, l7c, v7, v7n, v7c, q7, q7n, q7c, p7, p7n, p7c, e7, e7n, e7c, f7, f7n, f7c⟩)) (hwk.max (h := ⟨l7, l7n, l7c, v7, v7n, v7c, q7, q7n, q7c, p7, p7n, p7c, e7, e7n, e7c, f7, f7n, f7c⟩))); have WK7 := hid (wk_drew hwk); have SX := hid (ten_cells (block_below W6.out.o B7.out)).2; have R7 := hid (block_below RH6.out B7.out); obtain ⟨x0, x1, x2, x3, x4, x5⟩ := six_cells R7.out; obtain ⟨z0, z1, z2, z3, z4, z5⟩ := six_froz R7.out; have rl7 := lt_of_block R7.out; have WR := hid (ownsRow_below W6.out.r B7.out); clear hwk hb))
    all_goals
      go_wp2
      have bw6 : Below w1.heap.size w1 w6 := B13.out.trans B6.out
      have bw7 : Below w.heap.size w w7 := BB.out.trans ((bw6.trans (B7.out.mono bw6.size)).mono BB.out.size)
      have S6 := set6 (a := .slice l7 l7n l7c) (b := .slice v7 v7n v7c) (c := .slice q7 q7n q7c) (d := .slice p7 p7n p7c) (e := .slice e7 e7n e7c) (f := .slice f7 f7n f7c) R7.out bw7 (by omega)
      obtain ⟨n0, n1, n2, n3, n4, n5⟩ := six_cells S6.1
      have G7 := WK7.out.kp S6.2.1 (fun _ h => h)
      have GR := row_same (w' := put6 w7 (w.heap.size + 1 + 1) (.slice l7 l7n l7c) (.slice v7 v7n v7c) (.slice q7 q7n q7c) (.slice p7 p7n p7c) (.slice e7 e7n e7c) (.slice f7 f7n f7c)) WR.out (fun b _ e => put6_far (fun e2 => own_far2 WR.out (by decide) R7.out (by rw [e, e2])))
      refine bodyPost_ret (v := .tuple #[kerV ⟨l7, l7n, l7c, v7, v7n, v7c, q7, q7n, q7c, p7, p7n, p7c, e7, e7n, e7c, f7, f7n, f7c⟩, .slice ra rn rc]) (by simp [results, Tryz.results8, go_sem, n0, n1, n2, n3, n4, n5, kerV]) rfl ?_
      rw [PK.out]
      exact ⟨⟨l7, l7n, l7c, v7, v7n, v7c, q7, q7n, q7c, p7, p7n, p7c, e7, e7n, e7c, f7, f7n, f7c⟩, ra, rn, rc, rfl, G7.ker (h := ⟨l7, l7n, l7c, v7, v7n, v7c, q7, q7n, q7c, p7, p7n, p7c, e7, e7n, e7c, f7, f7n, f7c⟩), G7.max (h := ⟨l7, l7n, l7c, v7, v7n, v7c, q7, q7n, q7c, p7, p7n, p7c, e7, e7n, e7c, f7, f7n, f7c⟩), RcRow.recs GR, S6.2.2, _, _, vs7, vq7, vd7, ⟨Nat.le_trans BB.out.size bw6.size, BB.out.size⟩, G7, GR⟩
end Go.Proofs.YthaklmdhkkfigaaGreat
