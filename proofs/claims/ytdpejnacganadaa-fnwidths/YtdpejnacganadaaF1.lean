import Derived.Test.YtdpejnacganadaaB7
import Derived.Deep.RegionWith
namespace Go.Proofs.Ytdpejnacganadaa
open Go.RowKit Go.Sort

/-- The name under which a node is asked. -/
def vname : String := "loop.example/s0063/impl.value"
def binFn (op : Int) : Nat := if op ≤ 12 then 113 + op.toNat else if op ≤ 17 then 112 + op.toNat else 131
def fnOf : Tree → Nat
  | .nil => 0
  | .node 0 _ _ _ _ => 110
  | .node 1 _ _ _ _ => 111
  | .node 2 _ _ _ _ => 113
  | .node 3 _ _ _ _ => 114
  | .node 4 _ _ _ _ => 112
  | .node _ _ op _ _ => binFn op
def pl : Tree → Value
  | .nil => .agg #[]
  | .node 0 _ n _ _ => .agg #[.int .i64 n]
  | .node 1 _ i _ _ => .agg #[.int .i64 i]
  | .node 2 _ _ _ _ => .agg #[]
  | .node 3 _ _ t _ => .agg #[tv t]
  | .node 4 _ k t _ => .agg #[tv t, .func (.func (cfn k)) #[] #[]]
  | .node _ _ _ l r => .agg #[tv l, tv r]
theorem pl_of {t : Tree} {y : Nat} {x : Value} (h : tv t = .iface y x) : x = pl t := by
  unfold tv at h
  unfold pl
  split at h <;> (simp only [Value.iface.injEq] at h; first | exact h.2.symm | (split <;> first | exact h.2.symm | contradiction | (simp_all; done)))
/-- The tree of an expression over n variables. -/
def WfT (n : Int) : Tree → Prop
  | .nil => False
  | .node 0 _ x _ _ => -999999999 ≤ x ∧ x ≤ 999999999
  | .node 1 _ i _ _ => 0 ≤ i ∧ i < n
  | .node 2 _ _ _ _ => True
  | .node 3 _ _ t _ => WfT n t
  | .node 4 _ k t _ => (1 ≤ k ∧ k ≤ 7) ∧ WfT n t
  | .node 5 _ op l r => binOk op ∧ WfT n l ∧ WfT n r
  | .node _ _ _ _ _ => False

set_option maxRecDepth 100000 in
theorem cm_b4 (a b : Value) (mp : Addr) (w : World) : (callMethod (.iface 152 (.agg #[a, b])) vname #[.pointer (some mp)]).run Try.prog w = .ok (.enter 117 #[.agg #[a, b], .pointer (some mp)]) w := by kernel_rfl
set_option maxRecDepth 100000 in
theorem cm_b5 (a b : Value) (mp : Addr) (w : World) : (callMethod (.iface 153 (.agg #[a, b])) vname #[.pointer (some mp)]).run Try.prog w = .ok (.enter 118 #[.agg #[a, b], .pointer (some mp)]) w := by kernel_rfl
set_option maxRecDepth 100000 in
theorem cm_b6 (a b : Value) (mp : Addr) (w : World) : (callMethod (.iface 154 (.agg #[a, b])) vname #[.pointer (some mp)]).run Try.prog w = .ok (.enter 119 #[.agg #[a, b], .pointer (some mp)]) w := by kernel_rfl
set_option maxRecDepth 100000 in
theorem cm_b7 (a b : Value) (mp : Addr) (w : World) : (callMethod (.iface 155 (.agg #[a, b])) vname #[.pointer (some mp)]).run Try.prog w = .ok (.enter 120 #[.agg #[a, b], .pointer (some mp)]) w := by kernel_rfl
set_option maxRecDepth 100000 in
theorem cm_b8 (a b : Value) (mp : Addr) (w : World) : (callMethod (.iface 156 (.agg #[a, b])) vname #[.pointer (some mp)]).run Try.prog w = .ok (.enter 121 #[.agg #[a, b], .pointer (some mp)]) w := by kernel_rfl
set_option maxRecDepth 100000 in
theorem cm_b9 (a b : Value) (mp : Addr) (w : World) : (callMethod (.iface 157 (.agg #[a, b])) vname #[.pointer (some mp)]).run Try.prog w = .ok (.enter 122 #[.agg #[a, b], .pointer (some mp)]) w := by kernel_rfl
set_option maxRecDepth 100000 in
theorem cm_b10 (a b : Value) (mp : Addr) (w : World) : (callMethod (.iface 158 (.agg #[a, b])) vname #[.pointer (some mp)]).run Try.prog w = .ok (.enter 123 #[.agg #[a, b], .pointer (some mp)]) w := by kernel_rfl
set_option maxRecDepth 100000 in
theorem cm_b11 (a b : Value) (mp : Addr) (w : World) : (callMethod (.iface 159 (.agg #[a, b])) vname #[.pointer (some mp)]).run Try.prog w = .ok (.enter 124 #[.agg #[a, b], .pointer (some mp)]) w := by kernel_rfl
set_option maxRecDepth 100000 in
theorem cm_b12 (a b : Value) (mp : Addr) (w : World) : (callMethod (.iface 160 (.agg #[a, b])) vname #[.pointer (some mp)]).run Try.prog w = .ok (.enter 125 #[.agg #[a, b], .pointer (some mp)]) w := by kernel_rfl
set_option maxRecDepth 100000 in
theorem cm_b14 (a b : Value) (mp : Addr) (w : World) : (callMethod (.iface 161 (.agg #[a, b])) vname #[.pointer (some mp)]).run Try.prog w = .ok (.enter 126 #[.agg #[a, b], .pointer (some mp)]) w := by kernel_rfl
set_option maxRecDepth 100000 in
theorem cm_b15 (a b : Value) (mp : Addr) (w : World) : (callMethod (.iface 162 (.agg #[a, b])) vname #[.pointer (some mp)]).run Try.prog w = .ok (.enter 127 #[.agg #[a, b], .pointer (some mp)]) w := by kernel_rfl
set_option maxRecDepth 100000 in
theorem cm_b16 (a b : Value) (mp : Addr) (w : World) : (callMethod (.iface 163 (.agg #[a, b])) vname #[.pointer (some mp)]).run Try.prog w = .ok (.enter 128 #[.agg #[a, b], .pointer (some mp)]) w := by kernel_rfl
set_option maxRecDepth 100000 in
theorem cm_b17 (a b : Value) (mp : Addr) (w : World) : (callMethod (.iface 164 (.agg #[a, b])) vname #[.pointer (some mp)]).run Try.prog w = .ok (.enter 129 #[.agg #[a, b], .pointer (some mp)]) w := by kernel_rfl
set_option maxRecDepth 100000 in
theorem cm_b18 (a b : Value) (mp : Addr) (w : World) : (callMethod (.iface 165 (.agg #[a, b])) vname #[.pointer (some mp)]).run Try.prog w = .ok (.enter 131 #[.agg #[a, b], .pointer (some mp)]) w := by kernel_rfl
theorem cm_bin (op : Int) (a b : Value) (mp : Addr) (w : World) (h : binOk op) : (callMethod (.iface (binTy op) (.agg #[a, b])) vname #[.pointer (some mp)]).run Try.prog w = .ok (.enter (binFn op) #[.agg #[a, b], .pointer (some mp)]) w := by
  have hk : op = 4 ∨ op = 5 ∨ op = 6 ∨ op = 7 ∨ op = 8 ∨ op = 9 ∨ op = 10 ∨ op = 11 ∨ op = 12 ∨ op = 14 ∨ op = 15 ∨ op = 16 ∨ op = 17 ∨ op = 18 := by unfold binOk at h; omega
  rcases hk with rfl | rfl | rfl | rfl | rfl | rfl | rfl | rfl | rfl | rfl | rfl | rfl | rfl | rfl
  · exact cm_b4 a b mp w
  · exact cm_b5 a b mp w
  · exact cm_b6 a b mp w
  · exact cm_b7 a b mp w
  · exact cm_b8 a b mp w
  · exact cm_b9 a b mp w
  · exact cm_b10 a b mp w
  · exact cm_b11 a b mp w
  · exact cm_b12 a b mp w
  · exact cm_b14 a b mp w
  · exact cm_b15 a b mp w
  · exact cm_b16 a b mp w
  · exact cm_b17 a b mp w
  · exact cm_b18 a b mp w
set_option maxRecDepth 100000 in
theorem cm_num (a : Value) (mp : Addr) (w : World) : (callMethod (.iface 133 (.agg #[a])) vname #[.pointer (some mp)]).run Try.prog w = .ok (.enter 110 #[.agg #[a], .pointer (some mp)]) w := by kernel_rfl
set_option maxRecDepth 100000 in
theorem cm_var (a : Value) (mp : Addr) (w : World) : (callMethod (.iface 136 (.agg #[a])) vname #[.pointer (some mp)]).run Try.prog w = .ok (.enter 111 #[.agg #[a], .pointer (some mp)]) w := by kernel_rfl
set_option maxRecDepth 100000 in
theorem cm_arg (mp : Addr) (w : World) : (callMethod (.iface 140 (.agg #[])) vname #[.pointer (some mp)]).run Try.prog w = .ok (.enter 113 #[.agg #[], .pointer (some mp)]) w := by kernel_rfl
set_option maxRecDepth 100000 in
theorem cm_no (a : Value) (mp : Addr) (w : World) : (callMethod (.iface 142 (.agg #[a])) vname #[.pointer (some mp)]).run Try.prog w = .ok (.enter 114 #[.agg #[a], .pointer (some mp)]) w := by kernel_rfl
set_option maxRecDepth 100000 in
theorem cm_conv (a b : Value) (mp : Addr) (w : World) : (callMethod (.iface 139 (.agg #[a, b])) vname #[.pointer (some mp)]).run Try.prog w = .ok (.enter 112 #[.agg #[a, b], .pointer (some mp)]) w := by kernel_rfl

theorem cm_any (n : Int) (t : Tree) (h : WfT n t) (mp : Addr) (w : World) : (callMethod (tv t) vname #[.pointer (some mp)]).run Try.prog w = .ok (.enter (fnOf t) #[pl t, .pointer (some mp)]) w := by
  match t, h with
  | .node 0 _ x _ _, _ => exact cm_num _ _ _
  | .node 1 _ i _ _, _ => exact cm_var _ _ _
  | .node 2 _ _ _ _, _ => exact cm_arg _ _
  | .node 3 _ _ t _, _ => exact cm_no _ _ _
  | .node 4 _ k t _, _ => exact cm_conv _ _ _ _
  | .node 5 _ op l r, h => exact cm_bin op _ _ _ _ h.1

theorem exec_invoke {P : Program} {o : Oper} {a : Act} {w : World} (r xop : Operand) (name : String) (tys : Array TypeId) {y f : Nat} {x v : Value} (hop : o.op = .call { callee := .invoke r name, args := #[xop], argTypes := tys })
    (hr : a.eval r = .iface y x) (hx : a.eval xop = v) (hm : (callMethod (.iface y x) name #[v]).run P w = .ok (.enter f #[x, v]) w) : (execOp a.eval o).run P w = .ok (.enter f #[x, v]) w := by
  simp [execOp, hop, resolve, invoke, hr, hx, hm]

theorem wpList_invoke {P : Program} (w : World) {ops : Array Oper} {rest : List Oper} {o : Oper} {a : Act} {Q : Exit → Act → World → Prop} (hg : o.guard = none) (r xop : Operand) (name : String) (tys : Array TypeId) {y f : Nat} {x v : Value}
    (hop : o.op = .call { callee := .invoke r name, args := #[xop], argTypes := tys }) (hr : a.eval r = .iface y x) (hx : a.eval xop = v) (hm : (callMethod (.iface y x) name #[v]).run P w = .ok (.enter f #[x, v]) w)
    (h : Calls P f #[x, v] w fun e w' => ∃ q, e = .returned q ∧ wpList P ops Q rest (a.put o.dst q) w') : wpList P ops Q (o :: rest) a w := by
  refine wpList_plain hg fun K hK' => ?_
  unfold Oper.wp
  rw [exec_invoke r xop name tys hop hr hx hm]
  exact h.mono fun e w' ⟨q, he, hk⟩ => by subst he; exact hK' _ _ hk

theorem quiet_invoke {P : Program} {ops : Array Oper} {C : World → Prop} {Q : Act → Prop} {a : Act} {o : Oper} {rest : List Oper} (hw : Region.wanted o (yielded ops a.tmps) = true) (r xop : Operand) (name : String) (tys : Array TypeId) {y f : Nat} {x v q : Value}
    (hop : o.op = .call { callee := .invoke r name, args := #[xop], argTypes := tys }) (hr : a.eval r = .iface y x) (hx : a.eval xop = v) (hm : ∀ w, (callMethod (.iface y x) name #[v]).run P w = .ok (.enter f #[x, v]) w)
    (hc : ∀ w, C w → Calls P f #[x, v] w fun e w'' => e = .returned q ∧ C w'') (hk : wpQuiet P ops C Q rest (a.put o.dst q)) : wpQuiet P ops C Q (o :: rest) a :=
  BigFrame.wpQuiet_want hw fun K hK => ⟨q, fun w hw' => by unfold Oper.quietAt; rw [exec_invoke r xop name tys hop hr hx (hm w)]; exact ⟨rfl, hc w hw'⟩, hK _ hk⟩

/-- What the nodes are walked with. -/
def MomAt (w : World) (mb : Nat) (vals : List Int) (arg : Int) : Prop :=
  mb < w.heap.size ∧ w.cell? ⟨mb, 2, none⟩ = some (.int .i64 arg) ∧ ∃ vo vn vc, w.cell? ⟨mb, 1, none⟩ = some (.slice vo vn vc) ∧ SliceOf w vo vn vals
theorem MomAt.below {w w' : World} {mb : Nat} {vals : List Int} {arg : Int} (h : MomAt w mb vals arg) (hb : Below w.heap.size w w') : MomAt w' mb vals arg := by
  obtain ⟨h1, h2, vo, vn, vc, h3, h4⟩ := h
  exact ⟨Nat.lt_of_lt_of_le h1 hb.size, (hb.cell (p := ⟨mb, 2, none⟩) h1).trans h2, vo, vn, vc, (hb.cell (p := ⟨mb, 1, none⟩) h1).trans h3, h4.below hb⟩

def truthI (b : Bool) : Int := if b then 1 else 0
set_option maxHeartbeats 400000 in
theorem truth_any (b : Bool) (w : World) : Calls Try.prog 115 #[.bool b] w fun e w' => e = .returned (.int .i64 (truthI b)) ∧ w' = w := by
  cases b
  · go_enter Try.func115, Try.ntmps115
    go_wp2
    go_ret
    exact ⟨rfl, rfl⟩
  · go_enter Try.func115, Try.ntmps115
    go_wp2
    go_ret
    exact ⟨rfl, rfl⟩
def cntB (c : Int) : Bool := decide (0 ≤ c ∧ c ≤ 63)
set_option maxHeartbeats 400000 in
theorem countOK_any (c : Int) (w : World) : Calls Try.prog 130 #[.int .i64 c] w fun e w' => e = .returned (.bool (cntB c)) ∧ w' = w := by
  by_cases h1 : 0 ≤ c <;> by_cases h7 : c ≤ 63
  all_goals
    go_enter Try.func130, Try.ntmps130
    go_wp2
    go_ret
    exact ⟨ret_bool (by simp [cntB]; omega), rfl⟩

/-- A value's contract, in every world that has only grown. -/
def Val (w : World) (f : Nat) (x p : Value) (q : Int) : Prop := ∀ w', Below w.heap.size w w' → Calls Try.prog f #[x, p] w' fun e w'' => e = .returned (.int .i64 q) ∧ Below w'.heap.size w' w''

set_option maxHeartbeats 800000 in
theorem both_any (ly ry lf rf : Nat) (lx rx : Value) (p q : Int) (mp : Addr) (w : World)
    (hl : ∀ (w : World), (callMethod (.iface ly lx) vname #[.pointer (some mp)]).run Try.prog w = .ok (.enter lf #[lx, .pointer (some mp)]) w)
    (hr : ∀ (w : World), (callMethod (.iface ry rx) vname #[.pointer (some mp)]).run Try.prog w = .ok (.enter rf #[rx, .pointer (some mp)]) w)
    (vl : Val w lf lx (.pointer (some mp)) p) (vr : Val w rf rx (.pointer (some mp)) q) :
    Calls Try.prog 116 #[.agg #[.iface ly lx, .iface ry rx], .pointer (some mp)] w fun e w' => e = .returned (.tuple #[.int .i64 p, .int .i64 q]) ∧ Below w.heap.size w w' := by
  have ML := hid hl
  have MR := hid hr
  have VL := hid vl
  have VR := hid vr
  clear hl hr vl vr
  obtain ⟨W, hW⟩ : ∃ W, W = w.alloc (.cells #[.iface ly lx, .iface ry rx] 145) := ⟨_, rfl⟩
  have bW : Below w.heap.size w W := by rw [hW]; exact below1 _ _
  have hc := pair_cells (show W.heap[w.heap.size]? = some (.cells #[.iface ly lx, .iface ry rx] 145 (0, 0)) by rw [hW]; exact heap_alloc_new w _)
  have q0 := cell_regrown hc.1
  have q1 := cell_regrown hc.2.1
  have hsz : w.heap.size ≤ W.heap.size := bW.size
  have BW := hid bW
  have HW := hid hW
  clear hc bW hW
  go_enter Try.func116, Try.ntmps116
  go_wp2
  rw [← HW.out]
  refine wp_region_quiet_below (by kernel_rfl) (by kernel_rfl) ?_
  iterate 3 (go_big_quiet_step (fail))
  refine quiet_invoke (by rfl) (.tmp 7) (.tmp 8) vname _ (by rfl) (by rfl) (by rfl) (ML.out) (q := .int .i64 p) ?_ ?_
  · rintro w' ⟨pp, rfl⟩
    exact Calls.regrown_of (VL.out _ (BW.out.trans ((below_regrown W pp.d pp.os).mono hsz)))
  change wpQuiet _ _ _ _ _ { tmps := #[.agg #[.iface ly lx, .iface ry rx], .pointer (some mp), .pointer (some ⟨w.heap.size, 0, none⟩), undef, .int .i64 0, .int .i64 0, .pointer (some ⟨w.heap.size, 0, none⟩), .iface ly lx, .pointer (some mp), .int .i64 p, undef, undef, undef, undef], defers := [] }
  iterate 3 (go_big_quiet_step (fail))
  refine quiet_invoke (by rfl) (.tmp 11) (.tmp 12) vname _ (by rfl) (by rfl) (by rfl) (MR.out) (q := .int .i64 q) ?_ ?_
  · rintro w' ⟨pp, rfl⟩
    exact Calls.regrown_of (VR.out _ (BW.out.trans ((below_regrown W pp.d pp.os).mono hsz)))
  change wpQuiet _ _ _ _ _ { tmps := #[.agg #[.iface ly lx, .iface ry rx], .pointer (some mp), .pointer (some ⟨w.heap.size, 0, none⟩), undef, .int .i64 0, .int .i64 0, .pointer (some ⟨w.heap.size, 0, none⟩), .iface ly lx, .pointer (some mp), .int .i64 p, .pointer (some ⟨w.heap.size, 1, none⟩), .iface ry rx, .pointer (some mp), .int .i64 q], defers := [] }
  iterate 2 (go_big_quiet_step (fail))
  refine wpQuiet_nil ?_
  intro _ hw'
  obtain ⟨⟨dq, osq⟩, hw''⟩ := hw'
  subst hw''
  go_wp2
  go_ret2
  exact ⟨rfl, BW.out.trans ((below_regrown W dq osq).mono hsz)⟩

set_option maxHeartbeats 400000 in
theorem no_any (y f : Nat) (x : Value) (q : Int) (mp : Addr) (w : World)
    (hm : ∀ (w : World), (callMethod (.iface y x) vname #[.pointer (some mp)]).run Try.prog w = .ok (.enter f #[x, .pointer (some mp)]) w)
    (hv : Val w f x (.pointer (some mp)) q) : Calls Try.prog 114 #[.agg #[.iface y x], .pointer (some mp)] w fun e w' => e = .returned (.int .i64 (truthI (q == 0))) ∧ Below w.heap.size w w' := by
  have M := hid hm
  have C := hid hv
  have T := hid truth_any
  clear hm hv
  go_enter Try.func114, Try.ntmps114
  go_wp2_with (first | (refine wpList_invoke _ (by rfl) (.tmp 6) (.tmp 7) vname _ (by rfl) (by rfl) (by rfl) (M.out _) ?_; refine (C.out _ (below1 _ _)).mono ?_; rintro e w1 ⟨rfl, hb⟩; have B := hid hb; clear hb; refine ⟨_, rfl, ?_⟩) | (go_at_call 115; refine (T.out _ _).mono ?_; rintro e w2 ⟨rfl, hw⟩; obtain rfl := hw.symm))
  go_ret
  exact ⟨rfl, (below1 _ _).trans (B.out.mono (by simp))⟩

set_option maxHeartbeats 400000 in
theorem num_any (n : Int) (p : Value) (w : World) : Calls Try.prog 110 #[.agg #[.int .i64 n], p] w fun e w' => e = .returned (.int .i64 n) ∧ Below w.heap.size w w' := by
  go_enter Try.func110, Try.ntmps110
  go_wp2
  go_ret
  exact ⟨rfl, below1 _ _⟩
set_option maxHeartbeats 400000 in
theorem argn_any (mb : Nat) (vals : List Int) (arg : Int) (w : World) (h : MomAt w mb vals arg) : Calls Try.prog 113 #[.agg #[], .pointer (some ⟨mb, 0, none⟩)] w fun e w' => e = .returned (.int .i64 arg) ∧ Below w.heap.size w w' := by
  obtain ⟨h1, h2, _⟩ := h
  go_enter Try.func113, Try.ntmps113
  go_wp2
  go_ret
  exact ⟨rfl, below1 _ _⟩
set_option maxHeartbeats 400000 in
theorem var_any (mb : Nat) (vals : List Int) (arg : Int) (i : Int) (w : World) (h0 : 0 ≤ i) (hi : i < vals.length) (h : MomAt w mb vals arg) : Calls Try.prog 111 #[.agg #[.int .i64 i], .pointer (some ⟨mb, 0, none⟩)] w fun e w' => e = .returned (.int .i64 (vals.getD i.toNat 0)) ∧ Below w.heap.size w w' := by
  obtain ⟨h1, _, vo, vn, vc, h3, h4⟩ := h
  obtain ⟨k, rfl⟩ : ∃ k : Nat, i = k := ⟨i.toNat, by omega⟩
  have hl := h4.1
  obtain ⟨b, off, rfl, hbl, hc⟩ := h4.2 (by omega)
  have hck := hc k (by omega)
  have hlt : (k : Int) < (vn : Int) := by omega
  have E : Hid (vals.getD (k : Int).toNat 0 = vals.getD k 0) := hid (by simp)
  rw [E.out]
  obtain ⟨x, hx⟩ : ∃ x, x = vals.getD k 0 := ⟨_, rfl⟩
  rw [← hx] at hck ⊢
  clear hx h4 hc hi h0 E hl
  go_enter Try.func111, Try.ntmps111
  go_wp2
  go_quiet (fail)
  go_wp2
  go_ret
  exact ⟨rfl, belowDraws (below1 _ _) _⟩
end Go.Proofs.Ytdpejnacganadaa
