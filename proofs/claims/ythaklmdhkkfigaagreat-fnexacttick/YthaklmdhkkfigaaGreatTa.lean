import Derived.Test.YthaklmdhkkfigaaGreatKx11
namespace Go.Proofs.YthaklmdhkkfigaaGreat
open Go.RowKit Go.Sort
set_option linter.unusedVariables false

/-- What a tick does to one timer. -/
def tkS (os : List ObD) (ts : List (Int × Int)) (s : KerD × List (Int × Int × Int)) (t : Nat) : KerD × List (Int × Int × Int) :=
  if s.1.left.getD t 0 = 0 then s else
  if wrap64 (s.1.left.getD t 0 - 1) = 0 then
    ({ (putK os s.1 s.2 (ts.getD t (0, 0)).1.toNat ((ts.getD t (0, 0)).2, (t : Int))).1 with left := s.1.left.set t (s.1.every.getD t 0) }, (putK os s.1 s.2 (ts.getD t (0, 0)).1.toNat ((ts.getD t (0, 0)).2, (t : Int))).2)
  else ({ s.1 with left := s.1.left.set t (wrap64 (s.1.left.getD t 0 - 1)) }, s.2)
def tkK (os : List ObD) (ts : List (Int × Int)) (k : KerD) (n : Nat) : KerD × List (Int × Int × Int) := (List.range n).foldl (tkS os ts) (k, [])
theorem tkK_succ (os : List ObD) (ts : List (Int × Int)) (k : KerD) (n : Nat) : tkK os ts k (n + 1) = tkS os ts (tkK os ts k n) n := by unfold tkK; rw [List.range_succ, List.foldl_append]; rfl
def tickK (sg : Int) (os : List ObD) (ts : List (Int × Int)) (k : KerD) : KerD × List (Int × Int × Int) := if kerB sg os ts k = true then tkK os ts k ts.length else (kd0, [])
theorem putK_left (os : List ObD) (k : KerD) (L : List Int) (rs : List (Int × Int × Int)) (i : Nat) (x : Int × Int) : putK os { k with left := L } rs i x = ({ (putK os k rs i x).1 with left := L }, (putK os k rs i x).2) := by
  unfold putK
  show (if _ then _ else _) = _
  by_cases h : (os.getD i ob0).qcap ≤ ((k.qs.getD i []).length : Int)
  · rw [if_pos h, if_pos h]
  · rw [if_neg h, if_neg h]
/-- What putK leaves. -/
structure PutI (os : List ObD) (k k' : KerD) : Prop where
  l : k'.leaf = k.leaf
  v : k'.vals = k.vals
  d : k'.ds = k.ds
  e : k'.left = k.left
  f : k'.every = k.every
  q : k'.qs.length = k.qs.length
theorem putK_i (os : List ObD) (k : KerD) (rs : List (Int × Int × Int)) (i : Nat) (x : Int × Int) : PutI os k (putK os k rs i x).1 := by
  unfold putK
  split
  · exact ⟨rfl, rfl, rfl, rfl, rfl, rfl⟩
  · exact ⟨rfl, rfl, rfl, rfl, rfl, by simp⟩
abbrev QOk (os : List ObD) (k : KerD) : Prop := ∀ i, i < os.length → (k.qs.getD i []).length ≤ (os.getD i ob0).qcap.toNat
theorem putK_q {os : List ObD} {k : KerD} (h : QOk os k) (rs : List (Int × Int × Int)) (i : Nat) (x : Int × Int) : QOk os (putK os k rs i x).1 := by
  unfold putK
  split
  · exact h
  · rename_i hc
    intro j hj
    show ((k.qs.set i (k.qs.getD i [] ++ [x])).getD j []).length ≤ _
    by_cases e : i = j
    · subst e
      by_cases hl : i < k.qs.length
      · rw [getD_set_eq hl, List.length_append, List.length_singleton]; omega
      · rw [List.set_eq_of_length_le (by omega)]; exact h i hj
    · rw [getD_set_ne e]; exact h j hj
theorem putK_r (os : List ObD) (k : KerD) (rs : List (Int × Int × Int)) (i : Nat) (x : Int × Int) : (putK os k rs i x).2.length ≤ rs.length + 1 := by
  unfold putK
  split <;> simp
/-- What a tick leaves, as far as it has come. -/
structure TkI (os : List ObD) (kd : KerD) (t : Nat) (s : KerD × List (Int × Int × Int)) : Prop where
  l : s.1.leaf = kd.leaf
  v : s.1.vals = kd.vals
  d : s.1.ds = kd.ds
  f : s.1.every = kd.every
  e : s.1.left.length = kd.left.length
  q : s.1.qs.length = kd.qs.length
  qo : QOk os s.1
  r : s.2.length ≤ t
theorem tki {os : List ObD} {ts : List (Int × Int)} {kd : KerD} (h : QOk os kd) : ∀ n, TkI os kd n (tkK os ts kd n)
  | 0 => ⟨rfl, rfl, rfl, rfl, rfl, rfl, h, Nat.le_refl _⟩
  | n + 1 => by
    have g := tki (ts := ts) h n
    rw [tkK_succ]
    unfold tkS
    split
    · exact ⟨g.l, g.v, g.d, g.f, g.e, g.q, g.qo, Nat.le_succ_of_le g.r⟩
    · split
      · have p := putK_i os (tkK os ts kd n).1 (tkK os ts kd n).2 (ts.getD n (0, 0)).1.toNat ((ts.getD n (0, 0)).2, (n : Int))
        exact ⟨p.l.trans g.l, p.v.trans g.v, p.d.trans g.d, p.f.trans g.f, by simp [g.e], p.q.trans g.q, putK_q g.qo _ _ _, Nat.le_trans (putK_r _ _ _ _ _) (by have := g.r; omega)⟩
      · exact ⟨g.l, g.v, g.d, g.f, by simp [g.e], g.q, g.qo, Nat.le_succ_of_le g.r⟩
theorem tag_ne2 {w : World} {a b : Nat} {ca cb : Array Value} {ta tb : TypeId} {fa fb : Nat × Nat} (ha : w.heap[a]? = some (.cells ca ta fa)) (hb : w.heap[b]? = some (.cells cb tb fb)) (h : ta ≠ tb) : a ≠ b := by
  rintro rfl
  rw [ha] at hb
  simp at hb
  exact h hb.2.1
/-- A timer of a checked system names an object. -/
theorem sys_tm {sg : Int} {os : List ObD} {ts : List (Int × Int)} {k : KerD} (h : kerB sg os ts k = true) {j : Nat} (hj : j < ts.length) : 0 ≤ (ts.getD j (0, 0)).1 ∧ (ts.getD j (0, 0)).1.toNat < os.length := by
  have h0 : (sysFault sg os ts).1 = 0 := by unfold kerB at h; exact (of_decide_eq_true h).1
  have c := sys_cnt h0
  by_cases hb : badTm sg os.length ts j = true
  · exfalso
    unfold sysFault at h0
    rw [if_pos c] at h0
    cases e1 : firstB (badOb sg os ts.length) os.length with
    | some q =>
      rw [e1] at h0
      have hk := firstB_is e1
      unfold badOb at hk
      exact (of_decide_eq_true hk) h0
    | none =>
      rw [e1] at h0
      cases e2 : firstB (badTm sg os.length ts) ts.length with
      | some q => rw [e2] at h0; simp at h0
      | none =>
        unfold firstB at e2
        have := List.find?_eq_none.1 e2 j (by simp [hj])
        exact this hb
  · unfold badTm at hb
    simp only [Bool.or_eq_true, Bool.not_eq_true', not_or, Bool.not_eq_false] at hb
    have b1 := bet_of hb.1
    omega
section
variable {X Y : World} {B H : Nat} {sv ov tv L V Q D E F R : Value} {k : KerD} {vs vq vd : List Value} {rs : List (Int × Int × Int)}
theorem int_at {g n c t : Nat} {zs : List Int} (h : X.ownsRow B 3 1 (.slice (some ⟨g, 0, none⟩) n c) zs.length (vint zs)) (ht : t < zs.length) : X.cell? ⟨g, t, none⟩ = some (.int .i64 (zs.getD t 0)) := by
  obtain rfl := row_len h
  rw [World.ownsRow.cellAt h t (by omega)]
  simp [vint, List.getD_eq_getElem?_getD, ht]
theorem int_fr {g n c m t : Nat} {xs : List Value} (h : X.ownsRow B 3 1 (.slice (some ⟨g, 0, none⟩) n c) m xs) : X.frozen? ⟨g, t, none⟩ = false := by
  obtain rfl := row_len h
  exact World.ownsRow.frozenAt h t
theorem Wb.atE {g n c t : Nat} (h : Wb X B H sv ov tv L V Q D (.slice (some ⟨g, 0, none⟩) n c) F R k vs vq vd rs) (ht : t < k.left.length) : X.cell? ⟨g, t, none⟩ = some (.int .i64 (k.left.getD t 0)) := int_at h.wk.e ht
theorem Wb.atF {g n c t : Nat} (h : Wb X B H sv ov tv L V Q D E (.slice (some ⟨g, 0, none⟩) n c) R k vs vq vd rs) (ht : t < k.every.length) : X.cell? ⟨g, t, none⟩ = some (.int .i64 (k.every.getD t 0)) := int_at h.wk.f ht
/-- What is left of a timer is set. -/
theorem Wb.setE {g n c t : Nat} (h : Wb X B H sv ov tv L V Q D (.slice (some ⟨g, 0, none⟩) n c) F R k vs vq vd rs) (z : Int) : Wb (X.setCell ⟨g, t, none⟩ (.int .i64 z)) B H sv ov tv L V Q D (.slice (some ⟨g, 0, none⟩) n c) F R { k with left := k.left.set t z } vs vq vd rs ∧ Below B X (X.setCell ⟨g, t, none⟩ (.int .i64 z)) := by
  have hg : ∃ cs, X.heap[g]? = some (.cells cs 3 (0, 0)) := by
    rcases h.wk.e.2 with ⟨h0, _⟩ | ⟨g', cap', cur, h1, _, h3, _⟩
    · cases h0
    · simp only [Value.slice.injEq, Option.some.injEq, Addr.mk.injEq] at h1
      obtain ⟨⟨rfl, _⟩, _⟩ := h1
      exact ⟨_, h3⟩
  obtain ⟨cs, hcs⟩ := hg
  have hgB : B ≤ g := (h.wk.e.lt g rfl).1
  have far : ∀ b, b ≠ g → (X.setCell ⟨g, t, none⟩ (.int .i64 z)).heap[b]? = X.heap[b]? := fun b hb => Below.heap_setCell _ _ _ _ hb
  have tag : ∀ {e : TypeId} {size m : Nat} {v : Value} {xs : List Value}, X.ownsRow B e size v m xs → e ≠ 3 → (X.setCell ⟨g, t, none⟩ (.int .i64 z)).ownsRow B e size v m xs := fun {e size m v xs} ho he => row_same ho (fun b _ hb => far b (fun x => own_far2 ho (fun y => he y.symm) hcs (by rw [hb, x])))
  have ap : ∀ {size m : Nat} {v : Value} {xs : List Value}, X.ownsRow B 3 size v m xs → (v.ownBlock ≠ some g) → (X.setCell ⟨g, t, none⟩ (.int .i64 z)).ownsRow B 3 size v m xs := fun {size m v xs} ho hne => row_same ho (fun b _ hb => far b (fun x => hne (by rw [hb, x])))
  obtain rfl := row_len h.wk.e
  have st := (World.ownsRow.stored h.wk.e t (.int .i64 z)).1
  refine ⟨⟨(far _ (fun x => tag_ne2 h.o hcs (by decide) x)).trans h.o, h.hH, ⟨ap h.wk.l (h.wk.el g rfl), ⟨tag h.wk.v.row (by decide), h.wk.v.len, fun i hi => ap (h.wk.v.inn i hi) (h.wk.ev g rfl i hi)⟩, ⟨tag h.wk.q.row (by decide), h.wk.q.len, fun i hi => tag (h.wk.q.inn i hi) (by decide)⟩, ⟨tag h.wk.d.row (by decide), h.wk.d.len, fun i hi => tag (h.wk.d.inn i hi) (by decide)⟩, ?_, ap h.wk.f (h.wk.ef g rfl), h.wk.qd, h.wk.el, h.wk.ef, h.wk.ev⟩, tag h.r (by decide)⟩, (Below.refl _ _).setCell hgB _⟩
  show (X.setCell ⟨g, t, none⟩ (.int .i64 z)).ownsRow B 3 1 _ (k.left.set t z).length (vint (k.left.set t z))
  rw [List.length_set, show vint (k.left.set t z) = (vint k.left).set t (.int .i64 z) from List.map_set]
  simpa using st
end
set_option maxHeartbeats 800000 in
/-- put, whether there is room or not. -/
theorem put_any (B H g n c ob off en ec : Nat) (sv tv L V D E F : Value) (Ra : Option Addr) (Rn Rc : Nat) (k : KerD) (vs vq vd : List Value) (rs : List (Int × Int × Int)) (os : List ObD) (i : Nat) (x1 x2 : Int) (w : World) (hB : B ≤ w.heap.size) (hl : rs.length ≤ 1048576) (hi : i < k.qs.length) (hq : k.qs.length ≤ 1048576) (hin : i < en) (hqi : (k.qs.getD i []).length ≤ 1048576) (hen : en ≤ 1048576) (hc : w.cell? ⟨ob, off + i * 8 + 1, none⟩ = some (.int .i64 (os.getD i ob0).qcap))
    (h : Wb w B H sv (.slice (some ⟨ob, off, none⟩) en ec) tv L V (.slice (some ⟨g, 0, none⟩) n c) D E F (.slice Ra Rn Rc) k vs vq vd rs) :
    Calls Tryz.prog 33 #[.pointer (some ⟨H, 0, none⟩), .int .i64 i, .agg #[.int .i64 x1, .int .i64 x2], .bool false] w fun e w' => (∃ b, e = .returned (.bool b)) ∧ (∃ ra rn rc vq', Wb w' B H sv (.slice (some ⟨ob, off, none⟩) en ec) tv L V (.slice (some ⟨g, 0, none⟩) n c) D E F (.slice ra rn rc) (putK os k rs i (x1, x2)).1 vs vq' vd (putK os k rs i (x1, x2)).2) ∧ Below B w w' := by
  by_cases hf : (os.getD i ob0).qcap ≤ ((k.qs.getD i []).length : Int)
  · have e : putK os k rs i (x1, x2) = (k, rs ++ [(2, (i : Int), x1)]) := by unfold putK; rw [if_pos hf]
    rw [e]
    refine (put_full B H g n c ob off en ec sv tv L V D E F _ k vs vq vd rs i x1 x2 _ w hB hl hi hq hin hqi hen hc hf h).mono ?_
    rintro e w' ⟨rfl, ra, rn, rc, hw, hb⟩
    exact ⟨⟨_, rfl⟩, ⟨ra, rn, rc, vq, hw⟩, hb⟩
  · have e : putK os k rs i (x1, x2) = ({ k with qs := k.qs.set i (k.qs.getD i [] ++ [(x1, x2)]) }, rs) := by unfold putK; rw [if_neg hf]
    rw [e]
    refine (put_room B H g n c ob off en ec sv tv L V D E F _ k vs vq vd rs i x1 x2 _ w hB hi hq hin hqi hen hc hf h).mono ?_
    rintro e w' ⟨rfl, ⟨x, hw⟩, hb⟩
    exact ⟨⟨_, rfl⟩, ⟨_, _, _, _, hw⟩, hb⟩
end Go.Proofs.YthaklmdhkkfigaaGreat
namespace Go.Proofs.YthaklmdhkkfigaaGreat
open Go.RowKit Go.Sort
set_option linter.unusedVariables false
attribute [local go_sem ↓] Go.wp_at_zero Go.wp_at_succ

theorem ker_qok {sg : Int} {os : List ObD} {ts : List (Int × Int)} {k : KerD} (h : kerB sg os ts k = true) : QOk os k := by
  have hd := h
  unfold kerB at hd
  obtain ⟨h1, h2, h3, _⟩ := of_decide_eq_true hd
  intro i hi
  have h4 := h3 i hi
  unfold obKi obK at h4
  simp only [Bool.and_eq_true] at h4
  obtain ⟨_, _, q, _⟩ := h4
  unfold evB at q
  have q1 := (of_decide_eq_true q).2
  omega
theorem tk_fits {sg : Int} {os : List ObD} {ts : List (Int × Int)} {kd : KerD} (hy : kerB sg os ts kd = true) (hf : FitsKer kd) (n : Nat) : FitsKer (tkK os ts kd n).1 := by
  have g := tki (ts := ts) (ker_qok hy) n
  have hl : lenP os ts kd := by have hd := hy; unfold kerB at hd; exact (of_decide_eq_true hd).2.1
  refine ⟨by rw [g.l]; exact hf.fl, by rw [g.v]; exact hf.fv, ⟨by rw [g.q]; exact hf.fq.1, fun i hi => ?_⟩, by rw [g.d]; exact hf.fp, by rw [g.e]; exact hf.fe, by rw [g.f]; exact hf.ff⟩
  rw [g.q, hl.1.2.2.1] at hi
  have h1 := g.qo i hi
  have h2 := (ob_caps hy hi).1
  omega
set_option maxRecDepth 100000 in
set_option maxHeartbeats 1600000 in
theorem specTick_no (sg : Int) (eo xo : Option Addr) (en ec xn xc : Nat) (os : List ObD) (ts : List (Int × Int)) (h : KerS) (kd : KerD) (w : World) (hen : en ≤ 9223372036854775807) (hec : en ≤ ec) (hxn : xn ≤ 9223372036854775807) (hm : KerMax h) (he : ObsOf w eo en os) (hx : ItemsOf w xo xn ts) (hk : KerOf w h kd) (hno : kerB sg os ts kd = false) :
    Calls Tryz.prog 22 #[sysV sg eo xo en ec xn xc, kerV h] w fun e w' => Ans w w' e (kd0, []) := by
  have HC := hid (fun W (hW : Below w.heap.size w W) => specKernelOK_any sg eo xo en ec xn xc os ts h kd W hen hec hxn hm (he.below hW) (hx.below hW) (hk.below hW))
  rw [hno] at HC
  obtain ⟨lo, ln, lc, vo, vn, vc, qo, qn, qc, po, pn, pc, fo, fn, fc, go, gn, gc⟩ := h
  unfold kerV at HC ⊢
  dsimp only at HC ⊢
  clear he hx hk hm hno
  have B3 := hid (below3 w (.cells #[.int .i64 sg, .slice eo en ec, .slice xo xn xc] 42) (.cells #[.slice lo ln lc, .slice vo vn vc, .slice qo qn qc, .slice po pn pc, .slice fo fn fc, .slice go gn gc] 35) OZ)
  go_enter Tryz.func22, Tryz.ntmps22
  go_wp2_with (go_at_call 29; with_reducible refine (HC.out _ B3.out).mono ?_; rintro e w1 ⟨rfl, hb⟩; have R1 := block_below (heap_alloc_new ((w.alloc (.cells #[.int .i64 sg, .slice eo en ec, .slice xo xn xc] 42)).alloc (.cells #[.slice lo ln lc, .slice vo vn vc, .slice qo qn qc, .slice po pn pc, .slice fo fn fc, .slice go gn gc] 35)) OZ) hb; simp only [World.size_alloc] at R1; obtain ⟨y0, y1, y2, y3, y4, y5⟩ := six_cells R1; obtain ⟨f0, f1, f2, f3, f4, f5⟩ := six_froz R1; have hl := lt_of_block R1; have RH := hid R1; have BB := hid (B3.out.trans (hb.mono B3.out.size)); clear R1 hb)
  have S6 := set6 (a := nilV) (b := nilV) (c := nilV) (d := nilV) (e := nilV) (f := nilV) RH.out BB.out (by omega)
  have SB := below1 (put6 w1 (w.heap.size + 1 + 1) nilV nilV nilV nilV nilV nilV) (.cells #[] 106)
  obtain ⟨q0, q1, q2, q3, q4, q5⟩ := six_cells (block_below S6.1 SB)
  refine bodyPost_ret (v := .tuple #[kerV ks0, .slice (some ⟨w1.heap.size, 0, none⟩) 0 0]) (by simp [results, Tryz.results22, go_sem, q0, q1, q2, q3, q4, q5, kerV]) rfl ?_
  have hs : (put6 w1 (w.heap.size + 1 + 1) nilV nilV nilV nilV nilV nilV).heap.size = w1.heap.size := by simp
  have RL := World.ownsRow_lit (put6 w1 (w.heap.size + 1 + 1) nilV nilV nilV nilV nilV nilV) (e := 106) (size := 3) (base := w.heap.size) #[] 0 S6.2.2.size (by decide) rfl
  rw [hs] at RL
  exact ⟨ks0, _, 0, 0, rfl, ker0 _, ⟨by simp, by simp, by simp, by simp, by simp, by simp⟩, ⟨rfl, fun h => absurd h (by simp)⟩, S6.2.2.trans (SB.mono S6.2.2.size), _, w.heap.size, [], [], [], ⟨Nat.le_refl _, Nat.le_refl _⟩, wk_nil _ _, RL⟩
set_option maxRecDepth 100000 in
set_option maxHeartbeats 3200000 in
theorem specTick_yes (sg : Int) (eo xo : Option Addr) (en ec xn xc : Nat) (os : List ObD) (ts : List (Int × Int)) (h : KerS) (kd : KerD) (w : World) (hen : en ≤ 9223372036854775807) (hec : en ≤ ec) (hxn : xn ≤ 9223372036854775807) (hm : KerMax h) (hf : FitsKer kd) (he : ObsOf w eo en os) (hx : ItemsOf w xo xn ts) (hk : KerOf w h kd) (hyes : kerB sg os ts kd = true) :
    Calls Tryz.prog 22 #[sysV sg eo xo en ec xn xc, kerV h] w fun e w' => Ans w w' e (tickK sg os ts kd) := by
  have HY := hid hyes
  have HC := hid (fun W (hW : Below w.heap.size w W) => specKernelOK_any sg eo xo en ec xn xc os ts h kd W hen hec hxn hm (he.below hW) (hx.below hW) (hk.below hW))
  rw [hyes] at HC
  have HK := hid (fun W (hW : Below w.heap.size w W) => l4Copy_any h kd W hf (hk.below hW))
  have HE : Hid (∀ W, Below w.heap.size w W → ObsOf W eo en os) := hid (fun W hW => he.below hW)
  have HO := hid he.1
  have HF := hid hf
  have KP : (sysFault sg os ts).1 = 0 ∧ lenP os ts kd := by unfold kerB at hyes; have := of_decide_eq_true hyes; exact ⟨this.1, this.2.1⟩
  have CN := sys_cnt KP.1
  have HQ := hid KP.2.1.2.2.1
  have XN : Hid (xn ≤ 200) := hid (by have h1 := CN.2.2; have h2 := hx.1; omega)
  obtain ⟨⟨sg1, sg2⟩, ⟨on1, on2⟩, _⟩ := CN
  rw [he.1] at on1 on2
  obtain ⟨lo, ln, lc, vo, vn, vc, qo, qn, qc, po, pn, pc, fo, fn, fc, go, gn, gc⟩ := h
  unfold kerV at HC HK ⊢
  dsimp only at HC HK ⊢
  have HXT : Hid (∀ W, Below w.heap.size w W → ItemsOf W xo xn ts) := hid (fun W hW => hx.below hW)
  have HYY := hid hyes
  have QK := hid (ker_qok hyes)
  have LEN := hid KP.2
  clear he hx hk hm hyes KP hf
  have B3 := hid (below3 w (.cells #[.int .i64 sg, .slice eo en ec, .slice xo xn xc] 42) (.cells #[.slice lo ln lc, .slice vo vn vc, .slice qo qn qc, .slice po pn pc, .slice fo fn fc, .slice go gn gc] 35) OZ)
  go_enter Tryz.func22, Tryz.ntmps22
  go_upto_region 3 with (go_at_call 29; with_reducible refine (HC.out _ B3.out).mono ?_; rintro e w1 ⟨rfl, hb⟩; have R1 := block_below (heap_alloc_new ((w.alloc (.cells #[.int .i64 sg, .slice eo en ec, .slice xo xn xc] 42)).alloc (.cells #[.slice lo ln lc, .slice vo vn vc, .slice qo qn qc, .slice po pn pc, .slice fo fn fc, .slice go gn gc] 35)) OZ) hb; have R2 := block_below (block_below (heap_alloc_new (w.alloc (.cells #[.int .i64 sg, .slice eo en ec, .slice xo xn xc] 42)) (.cells #[.slice lo ln lc, .slice vo vn vc, .slice qo qn qc, .slice po pn pc, .slice fo fn fc, .slice go gn gc] 35)) (below1 _ OZ)) hb; have R3 := block_below (block_below (heap_alloc_new w (.cells #[.int .i64 sg, .slice eo en ec, .slice xo xn xc] 42)) (below2 _ _ _)) hb; simp only [World.size_alloc] at R1 R2; have RH := hid R1; have RK := hid R2; have RS := hid R3; have BB := hid (B3.out.trans (hb.mono B3.out.size)); clear R1 R2 R3 hb)
  obtain ⟨k0, k1, k2, k3, k4, k5⟩ := six_cells RK.out
  obtain ⟨s0, s1, s2⟩ := three_cells RS.out
  have rl := lt_of_block RH.out
  go_region_held3 (fun X => (X.cell? ⟨w.heap.size, 0, none⟩ = some (.int .i64 sg) ∧ X.cell? ⟨w.heap.size, 1, none⟩ = some (.slice eo en ec) ∧ X.cell? ⟨w.heap.size, 2, none⟩ = some (.slice xo xn xc)) ∧ (X.cell? ⟨w.heap.size + 1, 0, none⟩ = some (.slice lo ln lc) ∧ X.cell? ⟨w.heap.size + 1, 1, none⟩ = some (.slice vo vn vc) ∧ X.cell? ⟨w.heap.size + 1, 2, none⟩ = some (.slice qo qn qc) ∧ X.cell? ⟨w.heap.size + 1, 3, none⟩ = some (.slice po pn pc) ∧ X.cell? ⟨w.heap.size + 1, 4, none⟩ = some (.slice fo fn fc) ∧ X.cell? ⟨w.heap.size + 1, 5, none⟩ = some (.slice go gn gc))) (first | (with_reducible exact SX.out) | (with_reducible exact SZ.out _) | go_keep)
    (first
      | (go_at_call 30; with_reducible refine (HK.out _ BB.out.drew).mono ?_; rintro e w2 ⟨⟨lo', ln', lc', vo', vn', vc', qo', qn', qc', po', pn', pc', eo', en', ec', fo', fn', fc'⟩, vs, vq, vd, rfl, hwk, hb⟩; dsimp only at hwk ⊢; have hb' := undrewK hb; have WK2 := hid (wk_drew hwk); have B2 := hid hb'; have RH2 := hid (block_below RH.out hb'); have RS2 := hid (block_below RS.out hb'); have RK2 := hid (block_below RK.out hb'); have SX := hid (And.intro (three_cells RS2.out) (six_cells RK2.out)); have SZ : Hid (∀ o, _ ∧ _) := hid (fun o => And.intro (three_cells (block_below RS2.out (below1 w2 o))) (six_cells (block_below RK2.out (below1 w2 o)))); clear hwk hb hb'))
  clear SZ SX k0 k1 k2 k3 k4 k5 s0 s1 s2
  obtain ⟨HB, hHB⟩ : ∃ HB, HB = w2.heap.size := ⟨_, rfl⟩
  obtain ⟨X3, hX3⟩ : ∃ X3, X3 = w2.alloc (.cells #[.int .i64 sg, .slice eo en ec, .slice xo xn xc, .slice lo' ln' lc', .slice vo' vn' vc', .slice qo' qn' qc', .slice po' pn' pc', .slice eo' en' ec', .slice fo' fn' fc', .slice none 0 0] 65) := ⟨_, rfl⟩
  have W3 : Hid (Wb X3 w1.heap.size HB (.int .i64 sg) (.slice eo en ec) (.slice xo xn xc) (.slice lo' ln' lc') (.slice vo' vn' vc') (.slice qo' qn' qc') (.slice po' pn' pc') (.slice eo' en' ec') (.slice fo' fn' fc') nilV kd vs vq vd []) := hid (by rw [hX3, hHB]; exact WK2.out.box B2.out.size)
  have B3x : Hid (Below w2.heap.size w2 X3) := hid (by rw [hX3]; exact below1 _ _)
  have RH3 := hid (block_below RH2.out B3x.out)
  have RS3 := hid (block_below RS2.out B3x.out)
  have B13 := hid (B2.out.trans (B3x.out.mono B2.out.size))
  have s3 := hid B13.out.size
  rw [← hX3, ← hHB]
  clear hX3 hHB
  obtain ⟨s0, s1, s2⟩ := three_cells RS3.out
  have sl := lt_of_block RS3.out
  have BX3 := hid (BB.out.trans (B13.out.mono BB.out.size))
  obtain ⟨ob, off, heo, hobl, hoc⟩ := (HE.out w (Below.refl _ _)).2 on1
  subst heo
  have OC : Hid (∀ Y, Below w.heap.size w Y → ∀ i, i < en → Y.cell? ⟨ob, off + i * 8 + 1, none⟩ = some (.int .i64 (os.getD i ob0).qcap)) := hid (fun Y hY i hi => by
    obtain ⟨os1, ⟨_, oc1, _, _, _, _, _, _⟩, _, _⟩ := hoc i hi
    exact (hY.cell (p := ⟨ob, off + i * 8 + 1, none⟩) hobl).trans oc1)
  obtain ⟨gq, capq, eq, hgq, _⟩ := World.ownsRow.form W3.out.wk.q.row (by rw [W3.out.wk.q.len, HQ.out, HO.out]; exact on1)
  simp only [Value.slice.injEq] at eq
  obtain ⟨rfl, hqn9, rfl⟩ := eq
  have HLT : Hid (kd.left.length = xn ∧ kd.every.length = xn ∧ ts.length = xn) := hid (by have h1 := LEN.out; have h2 := (HXT.out w (Below.refl _ _)).1; omega)
  have PK : Hid (tickK sg os ts kd = tkK os ts kd xn) := hid (by unfold tickK; rw [if_pos HYY.out, HLT.out.2.2])
  have TI := hid (fun n => tki (ts := ts) QK.out n)
  clear hqn9 hoc HC HK HE
  go_wp2_with fail
  clear s0 s1 s2
  go_loopg [7, 8, 23] xn (fun mm s7 s8 ix X => ∃ (t : Nat) (ra : Option Addr) (rn rc : Nat) (vq' : List Value), t ≤ xn ∧ mm = xn - t ∧ ix = .int .i64 t ∧ Hid (Wb X w1.heap.size HB (.int .i64 sg) (.slice (some ⟨ob, off, none⟩) en ec) (.slice xo xn xc) (.slice lo' ln' lc') (.slice vo' vn' vc') (.slice (some ⟨gq, 0, none⟩) qn' qc') (.slice po' pn' pc') (.slice eo' en' ec') (.slice fo' fn' fc') (.slice ra rn rc) (tkK os ts kd t).1 vs vq' vd (tkK os ts kd t).2) ∧ Hid (Below w1.heap.size w1 X))
  case atStart => exact ⟨0, none, 0, 0, vq, Nat.zero_le _, by omega, rfl, W3, B13⟩
  case round =>
    clear W3 B13 B3x RH3 RS3 BX3 s3 WK2 B2 RH2 RS2 RK2 sl
    obtain ⟨t, ra, rn, rc, vq', ht, rfl, rfl, HW, HB1⟩ := hrel
    by_cases hlt : t < xn
    · have hlt' : (t : Int) < (xn : Int) := by omega
      have TT := hid (TI.out t)
      have TN := hid (tkK_succ os ts kd t)
      have FT := hid (tk_fits HYY.out HF.out t)
      obtain ⟨kS, hkS⟩ : ∃ x, x = (tkK os ts kd t).1 := ⟨_, rfl⟩
      obtain ⟨rS, hrS⟩ : ∃ x, x = (tkK os ts kd t).2 := ⟨_, rfl⟩
      have ES : Hid (tkK os ts kd t = (kS, rS)) := hid (by rw [hkS, hrS])
      rw [← hkS, ← hrS] at HW
      rw [ES.out] at TT TN FT
      clear hkS hrS
      have LLn : Hid (kS.left.length = xn ∧ kS.every.length = xn) := hid (by have h1 := TT.out.e; have h2 := TT.out.f; have h3 := HLT.out; exact ⟨h1.trans h3.1, by show kS.every.length = xn; rw [show kS.every = kd.every from h2]; exact h3.2.1⟩)
      obtain ⟨tb, toff, rfl, htl, htc⟩ := (HXT.out w (Below.refl _ _)).2 (by omega)
      obtain ⟨t0, t1⟩ := htc t hlt
      have tm := sys_tm HYY.out (show t < ts.length by rw [HLT.out.2.2]; exact hlt)
      obtain ⟨oi, hoi⟩ : ∃ x : Nat, x = (ts.getD t (0, 0)).1.toNat := ⟨_, rfl⟩
      obtain ⟨z2, hz2⟩ : ∃ x, x = (ts.getD t (0, 0)).2 := ⟨_, rfl⟩
      rw [show (ts.getD t (0, 0)).1 = (oi : Int) by omega] at t0
      rw [← hz2] at t1
      have oil : oi < os.length := by rw [hoi]; exact tm.2
      have oie : oi < en := by rw [← HO.out]; exact oil
      have BWr := hid (BB.out.trans (HB1.out.mono BB.out.size))
      have t0' := (BWr.out.cell (p := ⟨tb, toff + t * 2, none⟩) htl).trans t0
      have t1' := (BWr.out.cell (p := ⟨tb, toff + t * 2 + 1, none⟩) htl).trans t1
      obtain ⟨gE, capE, eqE, hgE, hgEl⟩ := World.ownsRow.form HW.out.wk.e (by have := LLn.out.1; show 0 < kS.left.length; omega)
      obtain ⟨gF, capF, eqF, hgF, hgFl⟩ := World.ownsRow.form HW.out.wk.f (by have := LLn.out.2; show 0 < kS.every.length; omega)
      simp only [Value.slice.injEq] at eqE eqF
      obtain ⟨rfl, eE2, rfl⟩ := eqE
      obtain ⟨rfl, eF2, rfl⟩ := eqF
      rw [show kS.left.length = xn from LLn.out.1] at eE2
      rw [show kS.every.length = xn from LLn.out.2] at eF2
      obtain rfl : xn = en' := eE2.symm
      obtain rfl : xn = fn' := eF2.symm
      obtain ⟨l, hl⟩ : ∃ x, x = kS.left.getD t 0 := ⟨_, rfl⟩
      obtain ⟨ev, hev⟩ : ∃ x, x = kS.every.getD t 0 := ⟨_, rfl⟩
      have cE : wr.cell? ⟨gE, t, none⟩ = some (.int .i64 l) := by rw [hl]; exact HW.out.atE (by rw [LLn.out.1]; exact hlt)
      have frE : wr.frozen? ⟨gE, t, none⟩ = false := int_fr HW.out.wk.e
      have ZL := hid hl
      have ZV := hid hev
      have ZO := hid hoi
      have Z2 := hid hz2
      have nFE : ¬ gF = gE := fun e => HW.out.wk.ef gE rfl (by rw [← e]; rfl)
      have nEF : ¬ gE = gF := fun e => nFE e.symm
      obtain ⟨_, ⟨u3, u4, u5, u6, u7, u8⟩, u9⟩ := ten_cells HW.out.o
      have hHr := lt_of_block HW.out.o
      have hHg := HW.out.hH
      clear hl hev hoi hz2 t0 t1 htc eE2 eF2
      by_cases h0 : l = 0
      · have e9 : Hid (tkK os ts kd (t + 1) = (kS, rS)) := hid (by rw [TN.out]; unfold tkS; rw [if_pos (show (kS, rS).1.left.getD t 0 = 0 from ZL.out.symm.trans h0)])
        subst h0
        go_wp2_with fail
        go_roundg (xn - (t + 1))
        case measure => omega
        case rel => exact ⟨t + 1, ra, rn, rc, vq', hlt, rfl, by go_num, hid (by rw [e9.out]; exact HW.out.below (below1 _ _)), hid (HB1.out.alloc HB1.out.size _)⟩
      · obtain ⟨lm, hlm⟩ : ∃ x, x = wrap64 (l - 1) := ⟨_, rfl⟩
        have h0b : (l == 0) = false := by simp [h0]
        go_upto_region 9 with fail
        rw [← hlm]
        have SE := HW.out.setE (t := t) lm
        obtain ⟨W5, hW5⟩ : ∃ W, W = (wr.setCell ⟨gE, t, none⟩ (.int .i64 lm)).alloc (.cells #[.int .i64 (oi : Int), .int .i64 z2] 115) := ⟨_, rfl⟩
        obtain ⟨TB, hTB⟩ : ∃ x, x = wr.heap.size := ⟨_, rfl⟩
        have b5 : Below (wr.setCell ⟨gE, t, none⟩ (.int .i64 lm)).heap.size (wr.setCell ⟨gE, t, none⟩ (.int .i64 lm)) W5 := by rw [hW5]; exact below1 _ _
        have T5 : Hid (W5.heap[TB]? = some (.cells #[.int .i64 (oi : Int), .int .i64 z2] 115 (0, 0))) := hid (by have h := heap_alloc_new (wr.setCell ⟨gE, t, none⟩ (.int .i64 lm)) (.cells #[.int .i64 (oi : Int), .int .i64 z2] 115); rw [World.size_setCell] at h; rw [hW5, hTB]; exact h)
        have W5w := hid (SE.1.below b5)
        have B5 : Hid (Below w1.heap.size w1 W5) := hid ((HB1.out.trans SE.2).trans (b5.mono (by rw [World.size_setCell]; exact HB1.out.size)))
        rw [← hW5, ← hTB]
        have HLM := hid hlm
        clear hW5 hTB b5 SE hlm cE frE u3 u4 u5 u6 u7 u8 u9 t0' t1'
        have c5 := W5w.out.atE (t := t) (by show t < (kS.left.set t lm).length; rw [List.length_set, LLn.out.1]; exact hlt)
        rw [show ({ kS with left := kS.left.set t lm } : KerD).left.getD t 0 = lm from getD_set_eq (by rw [LLn.out.1]; exact hlt)] at c5
        obtain ⟨_, ⟨u3, u4, u5, u6, u7, u8⟩, u9⟩ := ten_cells W5w.out.o
        obtain ⟨v0, v1⟩ := two_cells T5.out
        have hH5 := lt_of_block W5w.out.o
        have hT5 := lt_of_block T5.out
        have hE5 := World.block_lt_of_cell? W5 _ c5
        have n0 : ¬ (kS, rS).1.left.getD t 0 = 0 := fun x => h0 (ZL.out.trans x)
        by_cases h1 : lm = 0
        · have e9 : Hid (tkK os ts kd (t + 1) = ({ (putK os kS rS oi (z2, (t : Int))).1 with left := kS.left.set t ev }, (putK os kS rS oi (z2, (t : Int))).2)) := hid (by
            rw [TN.out]
            unfold tkS
            rw [if_neg n0, if_pos (show wrap64 ((kS, rS).1.left.getD t 0 - 1) = 0 from ((congrArg (fun x => wrap64 (x - 1)) ZL.out.symm).trans (HLM.out.symm.trans h1))), ← ZO.out, ← Z2.out, ← ZV.out])
          subst h1
          have CP := hid (put_any w1.heap.size HB gq qn' qc' ob off en ec (.int .i64 sg) _ _ _ _ _ _ ra rn rc { kS with left := kS.left.set t 0 } vs vq' vd rS os oi z2 (t : Int) W5 B5.out.size (by have h1 : rS.length ≤ t := TT.out.r; have h2 := XN.out; show rS.length ≤ 1048576; omega) (by show oi < kS.qs.length; rw [show kS.qs.length = kd.qs.length from TT.out.q, HQ.out]; exact oil) FT.out.fq.1 oie (FT.out.fq.2 oi (by show oi < kS.qs.length; rw [show kS.qs.length = kd.qs.length from TT.out.q, HQ.out]; exact oil)) (by omega) (OC.out _ (BB.out.trans (B5.out.mono BB.out.size)) oi oie) W5w.out)
          go_upto_region 11 with (go_at_call 33; with_reducible refine CP.out.mono ?_; rintro e w6 ⟨⟨bb, rfl⟩, ⟨ra6, rn6, rc6, vq6, hw⟩, hb⟩; have W6 := hid hw; have B6 := hid (B5.out.trans (hb.mono (Nat.le_refl _))); clear hw hb)
          have P6 := hid (putK_i os { kS with left := kS.left.set t 0 } rS oi (z2, (t : Int)))
          have cF := W6.out.atF (t := t) (by rw [P6.out.f]; show t < kS.every.length; rw [LLn.out.2]; exact hlt)
          rw [P6.out.f, show ({ kS with left := kS.left.set t 0 } : KerD).every.getD t 0 = ev from ZV.out.symm] at cF
          have cE := W6.out.atE (t := t) (by rw [P6.out.e]; show t < (kS.left.set t 0).length; rw [List.length_set, LLn.out.1]; exact hlt)
          have frE := int_fr (t := t) W6.out.wk.e
          clear u3 u4 u5 u6 u7 u8 u9 v0 v1 c5 hH5 hT5 hE5 CP
          obtain ⟨_, ⟨u3, u4, u5, u6, u7, u8⟩, u9⟩ := ten_cells W6.out.o
          have hH6 := lt_of_block W6.out.o
          have hE6 := World.block_lt_of_cell? w6 _ cE
          have hF6 := World.block_lt_of_cell? w6 _ cF
          have nHE : ¬ HB = gE := by
            obtain ⟨cs, hcs⟩ : ∃ cs, w6.heap[gE]? = some (.cells cs 3 (0, 0)) := by
              rcases W6.out.wk.e.2 with ⟨h0, _⟩ | ⟨g', cap', cur, k1, _, k3, _⟩
              · cases h0
              · simp only [Value.slice.injEq, Option.some.injEq, Addr.mk.injEq] at k1
                obtain ⟨⟨rfl, _⟩, _⟩ := k1
                exact ⟨_, k3⟩
            exact tag_ne2 W6.out.o hcs (by decide)
          have nEH : ¬ gE = HB := fun e => nHE e.symm
          go_region_held3 (fun X => X.cell? ⟨HB, 7, none⟩ = some (.slice (some ⟨gE, 0, none⟩) xn ec') ∧ X.cell? ⟨HB, 8, none⟩ = some (.slice (some ⟨gF, 0, none⟩) xn fc') ∧ X.cell? ⟨gF, t, none⟩ = some (.int .i64 ev)) (go_keep)
            (fail)
          all_goals
            go_wp2_with fail
            go_roundg (xn - (t + 1))
            case measure => omega
            case rel =>
              have SF := (W6.out.below (Below.refl _ _).drew).setE (t := t) ev
              refine ⟨t + 1, ra6, rn6, rc6, vq6, hlt, rfl, by go_num, hid ?_, hid ((B6.out.trans ((Below.refl _ _).drew)).trans SF.2)⟩
              have h := SF.1
              rw [putK_left] at h
              rw [e9.out]
              rw [show ((({ (putK os kS rS oi (z2, (t : Int))).1 with left := kS.left.set t 0 }, (putK os kS rS oi (z2, (t : Int))).2) : KerD × List (Int × Int × Int)).1.left.set t ev) = kS.left.set t ev from List.set_set _] at h
              exact h
        · have e9 : Hid (tkK os ts kd (t + 1) = ({ kS with left := kS.left.set t lm }, rS)) := hid (by
            rw [TN.out]
            unfold tkS
            rw [if_neg n0, if_neg (show ¬ wrap64 ((kS, rS).1.left.getD t 0 - 1) = 0 by intro x; exact h1 (by rw [HLM.out, ZL.out]; exact x)), HLM.out, ZL.out])
          have h1b : (lm == 0) = false := by simp [h1]
          go_wp2_with fail
          go_roundg (xn - (t + 1))
          case measure => omega
          case rel => exact ⟨t + 1, ra, rn, rc, vq', hlt, rfl, by go_num, hid (by rw [e9.out]; exact W5w.out), B5⟩
    · have hnl : ¬ ((t : Int) < (xn : Int)) := by omega
      have ETX : Hid (t = xn) := hid (by omega)
      have FT := hid (tk_fits (ts := ts) HYY.out HF.out t)
      have TX : Hid (tickK sg os ts kd = tkK os ts kd t) := hid (by rw [PK.out, ETX.out])
      obtain ⟨kS, hkS⟩ : ∃ x, x = (tkK os ts kd t).1 := ⟨_, rfl⟩
      obtain ⟨rS, hrS⟩ : ∃ x, x = (tkK os ts kd t).2 := ⟨_, rfl⟩
      have ES : Hid (tickK sg os ts kd = (kS, rS)) := hid (by rw [TX.out, hkS, hrS])
      rw [← hkS, ← hrS] at HW
      rw [← hkS] at FT
      clear hkS hrS TX PK
      have W6 := HW
      have CK := hid (l4Copy_any ⟨lo', ln', lc', vo', vn', vc', (some ⟨gq, 0, none⟩), qn', qc', po', pn', pc', eo', en', ec', fo', fn', fc'⟩ kS wr.drew FT.out (W6.out.wk.ker (h := ⟨lo', ln', lc', vo', vn', vc', (some ⟨gq, 0, none⟩), qn', qc', po', pn', pc', eo', en', ec', fo', fn', fc'⟩) |>.below (Below.refl _ _).drew))
      unfold kerV at CK
      dsimp only at CK
      have RH6 := hid ((HB1.out.block _ rl).trans RH.out)
      have hB6 := hid HB1.out.size
      have ne1 : ¬ HB = w.heap.size + 1 + 1 := by have := W6.out.hH; omega
      have ne2 : ¬ w.heap.size + 1 + 1 = HB := by omega
      obtain ⟨_, ⟨t3, t4, t5, t6, t7, t8⟩, t9⟩ := ten_cells W6.out.o
      have hH6 := lt_of_block W6.out.o
      go_upto_region 13 with fail
      go_region_held3 (fun X => (X.cell? ⟨HB, 3, none⟩ = some (.slice lo' ln' lc') ∧ X.cell? ⟨HB, 4, none⟩ = some (.slice vo' vn' vc') ∧ X.cell? ⟨HB, 5, none⟩ = some (.slice (some ⟨gq, 0, none⟩) qn' qc') ∧ X.cell? ⟨HB, 6, none⟩ = some (.slice po' pn' pc') ∧ X.cell? ⟨HB, 7, none⟩ = some (.slice eo' en' ec') ∧ X.cell? ⟨HB, 8, none⟩ = some (.slice fo' fn' fc')) ∧ X.cell? ⟨HB, 9, none⟩ = some (.slice ra rn rc)) (first | (with_reducible exact SX.out) | go_keep)
        (first | (go_at_call 30; with_reducible refine CK.out.mono ?_; rintro e w7 ⟨⟨l7, l7n, l7c, v7, v7n, v7c, q7, q7n, q7c, p7, p7n, p7c, e7, e7n, e7c, f7, f7n, f7c⟩, vs7, vq7, vd7, rfl, hwk, hb⟩; dsimp only at hwk ⊢; have B7 := hid (undrewK hb); have K7 := hid (And.intro (hwk.ker (h := ⟨l7, l7n, l7c, v7, v7n, v7c, q7, q7n, q7c, p7, p7n, p7c, e7, e7n, e7c, f7, f7n, f7c⟩)) (hwk.max (h := ⟨l7, l7n, l7c, v7, v7n, v7c, q7, q7n, q7c, p7, p7n, p7c, e7, e7n, e7c, f7, f7n, f7c⟩))); have WK7 := hid (wk_drew hwk); have SX := hid (ten_cells (block_below W6.out.o B7.out)).2; have R7 := hid (block_below RH6.out B7.out); obtain ⟨x0, x1, x2, x3, x4, x5⟩ := six_cells R7.out; obtain ⟨z0, z1, z2, z3, z4, z5⟩ := six_froz R7.out; have rl7 := lt_of_block R7.out; have WR := hid (ownsRow_below W6.out.r B7.out); clear hwk hb))
      all_goals
        go_wp2
        have bw6 : Below w1.heap.size w1 wr := HB1.out
        have bw7 : Below w.heap.size w w7 := BB.out.trans ((bw6.trans (B7.out.mono bw6.size)).mono BB.out.size)
        have S6 := set6 (a := .slice l7 l7n l7c) (b := .slice v7 v7n v7c) (c := .slice q7 q7n q7c) (d := .slice p7 p7n p7c) (e := .slice e7 e7n e7c) (f := .slice f7 f7n f7c) R7.out bw7 (by omega)
        obtain ⟨n0, n1, n2, n3, n4, n5⟩ := six_cells S6.1
        have G7 := WK7.out.kp S6.2.1 (fun _ h => h)
        have GR := row_same (w' := put6 w7 (w.heap.size + 1 + 1) (.slice l7 l7n l7c) (.slice v7 v7n v7c) (.slice q7 q7n q7c) (.slice p7 p7n p7c) (.slice e7 e7n e7c) (.slice f7 f7n f7c)) WR.out (fun b _ e => put6_far (fun e2 => own_far2 WR.out (by decide) R7.out (by rw [e, e2])))
        refine bodyPost_ret (v := .tuple #[kerV ⟨l7, l7n, l7c, v7, v7n, v7c, q7, q7n, q7c, p7, p7n, p7c, e7, e7n, e7c, f7, f7n, f7c⟩, .slice ra rn rc]) (by simp [results, Tryz.results22, go_sem, n0, n1, n2, n3, n4, n5, kerV]) rfl ?_
        rw [ES.out]
        exact ⟨⟨l7, l7n, l7c, v7, v7n, v7c, q7, q7n, q7c, p7, p7n, p7c, e7, e7n, e7c, f7, f7n, f7c⟩, ra, rn, rc, rfl, G7.ker (h := ⟨l7, l7n, l7c, v7, v7n, v7c, q7, q7n, q7c, p7, p7n, p7c, e7, e7n, e7c, f7, f7n, f7c⟩), G7.max (h := ⟨l7, l7n, l7c, v7, v7n, v7c, q7, q7n, q7c, p7, p7n, p7c, e7, e7n, e7c, f7, f7n, f7c⟩), RcRow.recs GR, S6.2.2, _, _, vs7, vq7, vd7, ⟨Nat.le_trans BB.out.size bw6.size, BB.out.size⟩, G7, GR⟩
end Go.Proofs.YthaklmdhkkfigaaGreat
