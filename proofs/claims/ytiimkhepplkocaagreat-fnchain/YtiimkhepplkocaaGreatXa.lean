import Derived.Test.YtiimkhepplkocaaGreatQ0
import Derived.Deep.RegionWith
namespace Go.Proofs.YtiimkhepplkocaaGreat
open Go.RowKit Go.Sort
def vname : String := "loop.example/s0063/impl.value"
def binFn (op : Int) : Nat := if op ≤ 12 then 221 + op.toNat else if op ≤ 17 then 220 + op.toNat else 239
def fnOf : Tree → Nat
 | .nil => 0
 | .node 0 _ _ _ _ => 208
 | .node 1 _ _ _ _ => 209
 | .node 2 _ _ _ _ => 211
 | .node 3 _ _ _ _ => 212
 | .node 4 _ _ _ _ => 210
 | .node _ _ op _ _ => binFn op
def pl : Tree → Value
 | .nil => .agg #[]
 | .node 0 _ n _ _ => .agg #[.int .i64 n]
 | .node 1 _ i _ _ => .agg #[.int .i64 i]
 | .node 2 _ _ _ _ => .agg #[]
 | .node 3 _ _ t _ => .agg #[tv t]
 | .node 4 _ k t _ => .agg #[tv t, .func (.func (cfn k)) #[] #[]]
 | .node _ _ _ l r => .agg #[tv l, tv r]
theorem pl_of {t : Tree} {y : Nat} {x : Value} (h : tv t = .iface y x) : x = pl t := by
 unfold tv at h
 unfold pl
 split at h <;> (simp only [Value.iface.injEq] at h; first | exact h.2.symm | (split <;> first | exact h.2.symm | contradiction | (simp_all; done)))
def WfT (n : Int) : Tree → Prop
 | .nil => False
 | .node 0 _ x _ _ => -999999999 ≤ x ∧ x ≤ 999999999
 | .node 1 _ i _ _ => 0 ≤ i ∧ i < n
 | .node 2 _ _ _ _ => True
 | .node 3 _ _ t _ => WfT n t
 | .node 4 _ k t _ => (1 ≤ k ∧ k ≤ 7) ∧ WfT n t
 | .node 5 _ op l r => binOk op ∧ WfT n l ∧ WfT n r
 | .node _ _ _ _ _ => False
set_option maxRecDepth 100000 in
theorem cm_b4 (a b : Value) (mp : Addr) (w : World) : (callMethod (.iface 293 (.agg #[a, b])) vname #[.pointer (some mp)]).run Tryz.prog w = .ok (.enter 225 #[.agg #[a, b], .pointer (some mp)]) w := by kernel_rfl
set_option maxRecDepth 100000 in
theorem cm_b5 (a b : Value) (mp : Addr) (w : World) : (callMethod (.iface 294 (.agg #[a, b])) vname #[.pointer (some mp)]).run Tryz.prog w = .ok (.enter 226 #[.agg #[a, b], .pointer (some mp)]) w := by kernel_rfl
set_option maxRecDepth 100000 in
theorem cm_b6 (a b : Value) (mp : Addr) (w : World) : (callMethod (.iface 295 (.agg #[a, b])) vname #[.pointer (some mp)]).run Tryz.prog w = .ok (.enter 227 #[.agg #[a, b], .pointer (some mp)]) w := by kernel_rfl
set_option maxRecDepth 100000 in
theorem cm_b7 (a b : Value) (mp : Addr) (w : World) : (callMethod (.iface 296 (.agg #[a, b])) vname #[.pointer (some mp)]).run Tryz.prog w = .ok (.enter 228 #[.agg #[a, b], .pointer (some mp)]) w := by kernel_rfl
set_option maxRecDepth 100000 in
theorem cm_b8 (a b : Value) (mp : Addr) (w : World) : (callMethod (.iface 297 (.agg #[a, b])) vname #[.pointer (some mp)]).run Tryz.prog w = .ok (.enter 229 #[.agg #[a, b], .pointer (some mp)]) w := by kernel_rfl
set_option maxRecDepth 100000 in
theorem cm_b9 (a b : Value) (mp : Addr) (w : World) : (callMethod (.iface 298 (.agg #[a, b])) vname #[.pointer (some mp)]).run Tryz.prog w = .ok (.enter 230 #[.agg #[a, b], .pointer (some mp)]) w := by kernel_rfl
set_option maxRecDepth 100000 in
theorem cm_b10 (a b : Value) (mp : Addr) (w : World) : (callMethod (.iface 299 (.agg #[a, b])) vname #[.pointer (some mp)]).run Tryz.prog w = .ok (.enter 231 #[.agg #[a, b], .pointer (some mp)]) w := by kernel_rfl
set_option maxRecDepth 100000 in
theorem cm_b11 (a b : Value) (mp : Addr) (w : World) : (callMethod (.iface 300 (.agg #[a, b])) vname #[.pointer (some mp)]).run Tryz.prog w = .ok (.enter 232 #[.agg #[a, b], .pointer (some mp)]) w := by kernel_rfl
set_option maxRecDepth 100000 in
theorem cm_b12 (a b : Value) (mp : Addr) (w : World) : (callMethod (.iface 301 (.agg #[a, b])) vname #[.pointer (some mp)]).run Tryz.prog w = .ok (.enter 233 #[.agg #[a, b], .pointer (some mp)]) w := by kernel_rfl
set_option maxRecDepth 100000 in
theorem cm_b14 (a b : Value) (mp : Addr) (w : World) : (callMethod (.iface 302 (.agg #[a, b])) vname #[.pointer (some mp)]).run Tryz.prog w = .ok (.enter 234 #[.agg #[a, b], .pointer (some mp)]) w := by kernel_rfl
set_option maxRecDepth 100000 in
theorem cm_b15 (a b : Value) (mp : Addr) (w : World) : (callMethod (.iface 303 (.agg #[a, b])) vname #[.pointer (some mp)]).run Tryz.prog w = .ok (.enter 235 #[.agg #[a, b], .pointer (some mp)]) w := by kernel_rfl
set_option maxRecDepth 100000 in
theorem cm_b16 (a b : Value) (mp : Addr) (w : World) : (callMethod (.iface 304 (.agg #[a, b])) vname #[.pointer (some mp)]).run Tryz.prog w = .ok (.enter 236 #[.agg #[a, b], .pointer (some mp)]) w := by kernel_rfl
set_option maxRecDepth 100000 in
theorem cm_b17 (a b : Value) (mp : Addr) (w : World) : (callMethod (.iface 305 (.agg #[a, b])) vname #[.pointer (some mp)]).run Tryz.prog w = .ok (.enter 237 #[.agg #[a, b], .pointer (some mp)]) w := by kernel_rfl
set_option maxRecDepth 100000 in
theorem cm_b18 (a b : Value) (mp : Addr) (w : World) : (callMethod (.iface 306 (.agg #[a, b])) vname #[.pointer (some mp)]).run Tryz.prog w = .ok (.enter 239 #[.agg #[a, b], .pointer (some mp)]) w := by kernel_rfl
theorem cm_bin (op : Int) (a b : Value) (mp : Addr) (w : World) (h : binOk op) : (callMethod (.iface (binTy op) (.agg #[a, b])) vname #[.pointer (some mp)]).run Tryz.prog w = .ok (.enter (binFn op) #[.agg #[a, b], .pointer (some mp)]) w := by
 have hk : op = 4 ∨ op = 5 ∨ op = 6 ∨ op = 7 ∨ op = 8 ∨ op = 9 ∨ op = 10 ∨ op = 11 ∨ op = 12 ∨ op = 14 ∨ op = 15 ∨ op = 16 ∨ op = 17 ∨ op = 18 := by unfold binOk at h; omega
 rcases hk with rfl | rfl | rfl | rfl | rfl | rfl | rfl | rfl | rfl | rfl | rfl | rfl | rfl | rfl
 ·exact cm_b4 a b mp w
 ·exact cm_b5 a b mp w
 ·exact cm_b6 a b mp w
 ·exact cm_b7 a b mp w
 ·exact cm_b8 a b mp w
 ·exact cm_b9 a b mp w
 ·exact cm_b10 a b mp w
 ·exact cm_b11 a b mp w
 ·exact cm_b12 a b mp w
 ·exact cm_b14 a b mp w
 ·exact cm_b15 a b mp w
 ·exact cm_b16 a b mp w
 ·exact cm_b17 a b mp w
 ·exact cm_b18 a b mp w
set_option maxRecDepth 100000 in
theorem cm_num (a : Value) (mp : Addr) (w : World) : (callMethod (.iface 248 (.agg #[a])) vname #[.pointer (some mp)]).run Tryz.prog w = .ok (.enter 208 #[.agg #[a], .pointer (some mp)]) w := by kernel_rfl
set_option maxRecDepth 100000 in
theorem cm_var (a : Value) (mp : Addr) (w : World) : (callMethod (.iface 250 (.agg #[a])) vname #[.pointer (some mp)]).run Tryz.prog w = .ok (.enter 209 #[.agg #[a], .pointer (some mp)]) w := by kernel_rfl
set_option maxRecDepth 100000 in
theorem cm_arg (mp : Addr) (w : World) : (callMethod (.iface 255 (.agg #[])) vname #[.pointer (some mp)]).run Tryz.prog w = .ok (.enter 211 #[.agg #[], .pointer (some mp)]) w := by kernel_rfl
set_option maxRecDepth 100000 in
theorem cm_no (a : Value) (mp : Addr) (w : World) : (callMethod (.iface 257 (.agg #[a])) vname #[.pointer (some mp)]).run Tryz.prog w = .ok (.enter 212 #[.agg #[a], .pointer (some mp)]) w := by kernel_rfl
set_option maxRecDepth 100000 in
theorem cm_conv (a b : Value) (mp : Addr) (w : World) : (callMethod (.iface 253 (.agg #[a, b])) vname #[.pointer (some mp)]).run Tryz.prog w = .ok (.enter 210 #[.agg #[a, b], .pointer (some mp)]) w := by kernel_rfl
theorem cm_any (n : Int) (t : Tree) (h : WfT n t) (mp : Addr) (w : World) : (callMethod (tv t) vname #[.pointer (some mp)]).run Tryz.prog w = .ok (.enter (fnOf t) #[pl t, .pointer (some mp)]) w := by
 match t, h with
 | .node 0 _ x _ _, _ => exact cm_num _ _ _
 | .node 1 _ i _ _, _ => exact cm_var _ _ _
 | .node 2 _ _ _ _, _ => exact cm_arg _ _
 | .node 3 _ _ t _, _ => exact cm_no _ _ _
 | .node 4 _ k t _, _ => exact cm_conv _ _ _ _
 | .node 5 _ op l r, h => exact cm_bin op _ _ _ _ h.1
theorem exec_invoke {P : Program} {o : Oper} {a : Act} {w : World} (r xop : Operand) (name : String) (tys : Array TypeId) {y f : Nat} {x v : Value} (hop : o.op = .call { callee := .invoke r name, args := #[xop], argTypes := tys })
  (hr : a.eval r = .iface y x) (hx : a.eval xop = v) (hm : (callMethod (.iface y x) name #[v]).run P w = .ok (.enter f #[x, v]) w) : (execOp a.eval o).run P w = .ok (.enter f #[x, v]) w := by
 simp [execOp, hop, resolve, invoke, hr, hx, hm]
theorem wpList_invoke {P : Program} (w : World) {ops : Array Oper} {rest : List Oper} {o : Oper} {a : Act} {Q : Exit → Act → World → Prop} (hg : o.guard = none) (r xop : Operand) (name : String) (tys : Array TypeId) {y f : Nat} {x v : Value}
  (hop : o.op = .call { callee := .invoke r name, args := #[xop], argTypes := tys }) (hr : a.eval r = .iface y x) (hx : a.eval xop = v) (hm : (callMethod (.iface y x) name #[v]).run P w = .ok (.enter f #[x, v]) w)
  (h : Calls P f #[x, v] w fun e w' => ∃ q, e = .returned q ∧ wpList P ops Q rest (a.put o.dst q) w') : wpList P ops Q (o :: rest) a w := by
 refine wpList_plain hg fun K hK' => ?_
 unfold Oper.wp
 rw [exec_invoke r xop name tys hop hr hx hm]
 exact h.mono fun e w' ⟨q, he, hk⟩ => by subst he; exact hK' _ _ hk
theorem quiet_invoke {P : Program} {ops : Array Oper} {C : World → Prop} {Q : Act → Prop} {a : Act} {o : Oper} {rest : List Oper} (hw : Region.wanted o (yielded ops a.tmps) = true) (r xop : Operand) (name : String) (tys : Array TypeId) {y f : Nat} {x v q : Value}
  (hop : o.op = .call { callee := .invoke r name, args := #[xop], argTypes := tys }) (hr : a.eval r = .iface y x) (hx : a.eval xop = v) (hm : ∀ w, (callMethod (.iface y x) name #[v]).run P w = .ok (.enter f #[x, v]) w)
  (hc : ∀ w, C w → Calls P f #[x, v] w fun e w'' => e = .returned q ∧ C w'') (hk : wpQuiet P ops C Q rest (a.put o.dst q)) : wpQuiet P ops C Q (o :: rest) a :=
 BigFrame.wpQuiet_want hw fun K hK => ⟨q, fun w hw' => by unfold Oper.quietAt; rw [exec_invoke r xop name tys hop hr hx (hm w)]; exact ⟨rfl, hc w hw'⟩, hK _ hk⟩
def MomAt (w : World) (mb : Nat) (vals : List Int) (arg : Int) : Prop :=
 mb < w.heap.size ∧ w.cell? ⟨mb, 2, none⟩ = some (.int .i64 arg) ∧ ∃ vo vn vc, w.cell? ⟨mb, 1, none⟩ = some (.slice vo vn vc) ∧ SliceOf w vo vn vals
theorem MomAt.below {w w' : World} {mb : Nat} {vals : List Int} {arg : Int} (h : MomAt w mb vals arg) (hb : Below w.heap.size w w') : MomAt w' mb vals arg := by
 obtain ⟨h1, h2, vo, vn, vc, h3, h4⟩ := h
 exact ⟨Nat.lt_of_lt_of_le h1 hb.size, (hb.cell (p := ⟨mb, 2, none⟩) h1).trans h2, vo, vn, vc, (hb.cell (p := ⟨mb, 1, none⟩) h1).trans h3, h4.below hb⟩
def truthI (b : Bool) : Int := if b then 1 else 0
set_option maxHeartbeats 400000 in
theorem truth_any (b : Bool) (w : World) : Calls Tryz.prog 213 #[.bool b] w fun e w' => e = .returned (.int .i64 (truthI b)) ∧ w' = w := by
 cases b
 ·go_enter Tryz.func213, Tryz.ntmps213
  go_wp2
  go_ret
  exact ⟨rfl, rfl⟩
 ·go_enter Tryz.func213, Tryz.ntmps213
  go_wp2
  go_ret
  exact ⟨rfl, rfl⟩
def cntS (c : Int) : Bool := decide (0 ≤ c ∧ c ≤ 63)
set_option maxHeartbeats 400000 in
theorem countOK_any (c : Int) (w : World) : Calls Tryz.prog 238 #[.int .i64 c] w fun e w' => e = .returned (.bool (cntS c)) ∧ w' = w := by
 by_cases h1 : 0 ≤ c <;> by_cases h7 : c ≤ 63
 all_goals
  go_enter Tryz.func238, Tryz.ntmps238
  go_wp2
  go_ret
  exact ⟨ret_bool (by simp [cntS]; omega), rfl⟩
def Val (w : World) (f : Nat) (x p : Value) (q : Int) : Prop := ∀ w', Below w.heap.size w w' → Calls Tryz.prog f #[x, p] w' fun e w'' => e = .returned (.int .i64 q) ∧ Below w'.heap.size w' w''
set_option maxHeartbeats 800000 in
theorem both_any (ly ry lf rf : Nat) (lx rx : Value) (p q : Int) (mp : Addr) (w : World)
  (hl : ∀ (w : World), (callMethod (.iface ly lx) vname #[.pointer (some mp)]).run Tryz.prog w = .ok (.enter lf #[lx, .pointer (some mp)]) w)
  (hr : ∀ (w : World), (callMethod (.iface ry rx) vname #[.pointer (some mp)]).run Tryz.prog w = .ok (.enter rf #[rx, .pointer (some mp)]) w)
  (vl : Val w lf lx (.pointer (some mp)) p) (vr : Val w rf rx (.pointer (some mp)) q) :
  Calls Tryz.prog 214 #[.agg #[.iface ly lx, .iface ry rx], .pointer (some mp)] w fun e w' => e = .returned (.tuple #[.int .i64 p, .int .i64 q]) ∧ Below w.heap.size w w' := by
 have ML := hid hl
 have MR := hid hr
 have VL := hid vl
 have VR := hid vr
 clear hl hr vl vr
 obtain ⟨W, hW⟩ : ∃ W, W = w.alloc (.cells #[.iface ly lx, .iface ry rx] 260) := ⟨_, rfl⟩
 have bW : Below w.heap.size w W := by rw [hW]; exact below1 _ _
 have hc := pair_cells (show W.heap[w.heap.size]? = some (.cells #[.iface ly lx, .iface ry rx] 260 (0, 0)) by rw [hW]; exact heap_alloc_new w _)
 have q0 := cell_regrown hc.1
 have q1 := cell_regrown hc.2.1
 have hsz : w.heap.size ≤ W.heap.size := bW.size
 have BW := hid bW
 have HW := hid hW
 clear hc bW hW
 go_enter Tryz.func214, Tryz.ntmps214
 go_wp2
 rw [← HW.out]
 refine wp_region_quiet_below (by kernel_rfl) (by kernel_rfl) ?_
 iterate 3 (go_big_quiet_step (fail))
 refine quiet_invoke (by rfl) (.tmp 7) (.tmp 8) vname _ (by rfl) (by rfl) (by rfl) (ML.out) (q := .int .i64 p) ?_ ?_
 ·rintro w' ⟨pp, rfl⟩
  exact Calls.regrown_of (VL.out _ (BW.out.trans ((below_regrown W pp.d pp.os).mono hsz)))
 change wpQuiet _ _ _ _ _ { tmps := #[.agg #[.iface ly lx, .iface ry rx], .pointer (some mp), .pointer (some ⟨w.heap.size, 0, none⟩), undef, .int .i64 0, .int .i64 0, .pointer (some ⟨w.heap.size, 0, none⟩), .iface ly lx, .pointer (some mp), .int .i64 p, undef, undef, undef, undef], defers := [] }
 iterate 3 (go_big_quiet_step (fail))
 refine quiet_invoke (by rfl) (.tmp 11) (.tmp 12) vname _ (by rfl) (by rfl) (by rfl) (MR.out) (q := .int .i64 q) ?_ ?_
 ·rintro w' ⟨pp, rfl⟩
  exact Calls.regrown_of (VR.out _ (BW.out.trans ((below_regrown W pp.d pp.os).mono hsz)))
 change wpQuiet _ _ _ _ _ { tmps := #[.agg #[.iface ly lx, .iface ry rx], .pointer (some mp), .pointer (some ⟨w.heap.size, 0, none⟩), undef, .int .i64 0, .int .i64 0, .pointer (some ⟨w.heap.size, 0, none⟩), .iface ly lx, .pointer (some mp), .int .i64 p, .pointer (some ⟨w.heap.size, 1, none⟩), .iface ry rx, .pointer (some mp), .int .i64 q], defers := [] }
 iterate 2 (go_big_quiet_step (fail))
 refine wpQuiet_nil ?_
 intro _ hw'
 obtain ⟨⟨dq, osq⟩, hw''⟩ := hw'
 subst hw''
 go_wp2
 go_ret2
 exact ⟨rfl, BW.out.trans ((below_regrown W dq osq).mono hsz)⟩
set_option maxHeartbeats 400000 in
theorem no_any (y f : Nat) (x : Value) (q : Int) (mp : Addr) (w : World)
  (hm : ∀ (w : World), (callMethod (.iface y x) vname #[.pointer (some mp)]).run Tryz.prog w = .ok (.enter f #[x, .pointer (some mp)]) w)
  (hv : Val w f x (.pointer (some mp)) q) : Calls Tryz.prog 212 #[.agg #[.iface y x], .pointer (some mp)] w fun e w' => e = .returned (.int .i64 (truthI (q == 0))) ∧ Below w.heap.size w w' := by
 have M := hid hm
 have C := hid hv
 have T := hid truth_any
 clear hm hv
 go_enter Tryz.func212, Tryz.ntmps212
 go_wp2_with (first | (refine wpList_invoke _ (by rfl) (.tmp 6) (.tmp 7) vname _ (by rfl) (by rfl) (by rfl) (M.out _) ?_; refine (C.out _ (below1 _ _)).mono ?_; rintro e w1 ⟨rfl, hb⟩; have B := hid hb; clear hb; refine ⟨_, rfl, ?_⟩) | (go_at_call 213; refine (T.out _ _).mono ?_; rintro e w2 ⟨rfl, hw⟩; obtain rfl := hw.symm))
 go_ret
 exact ⟨rfl, (below1 _ _).trans (B.out.mono (by simp))⟩
set_option maxHeartbeats 400000 in
theorem num_any (n : Int) (p : Value) (w : World) : Calls Tryz.prog 208 #[.agg #[.int .i64 n], p] w fun e w' => e = .returned (.int .i64 n) ∧ Below w.heap.size w w' := by
 go_enter Tryz.func208, Tryz.ntmps208
 go_wp2
 go_ret
 exact ⟨rfl, below1 _ _⟩
set_option maxHeartbeats 400000 in
theorem argn_any (mb : Nat) (vals : List Int) (arg : Int) (w : World) (h : MomAt w mb vals arg) : Calls Tryz.prog 211 #[.agg #[], .pointer (some ⟨mb, 0, none⟩)] w fun e w' => e = .returned (.int .i64 arg) ∧ Below w.heap.size w w' := by
 obtain ⟨h1, h2, _⟩ := h
 go_enter Tryz.func211, Tryz.ntmps211
 go_wp2
 go_ret
 exact ⟨rfl, below1 _ _⟩
set_option maxHeartbeats 400000 in
theorem var_any (mb : Nat) (vals : List Int) (arg : Int) (i : Int) (w : World) (h0 : 0 ≤ i) (hi : i < vals.length) (h : MomAt w mb vals arg) : Calls Tryz.prog 209 #[.agg #[.int .i64 i], .pointer (some ⟨mb, 0, none⟩)] w fun e w' => e = .returned (.int .i64 (vals.getD i.toNat 0)) ∧ Below w.heap.size w w' := by
 obtain ⟨h1, _, vo, vn, vc, h3, h4⟩ := h
 obtain ⟨k, rfl⟩ : ∃ k : Nat, i = k := ⟨i.toNat, by omega⟩
 have hl := h4.1
 obtain ⟨b, off, rfl, hbl, hc⟩ := h4.2 (by omega)
 have hck := hc k (by omega)
 have hlt : (k : Int) < (vn : Int) := by omega
 have E : Hid (vals.getD (k : Int).toNat 0 = vals.getD k 0) := hid (by simp)
 rw [E.out]
 obtain ⟨x, hx⟩ : ∃ x, x = vals.getD k 0 := ⟨_, rfl⟩
 rw [← hx] at hck ⊢
 clear hx h4 hc hi h0 E hl
 go_enter Tryz.func209, Tryz.ntmps209
 go_wp2
 go_quiet (fail)
 go_wp2
 go_ret
 exact ⟨rfl, belowDraws (below1 _ _) _⟩
end Go.Proofs.YtiimkhepplkocaaGreat
namespace Go.Proofs.YtiimkhepplkocaaGreat
open Go.RowKit Go.Sort
set_option maxHeartbeats 800000 in
theorem convn_any (y f : Nat) (x : Value) (k q : Int) (mp : Addr) (w : World) (h1 : 1 ≤ k) (h7 : k ≤ 7)
  (hm : ∀ (w : World), (callMethod (.iface y x) vname #[.pointer (some mp)]).run Tryz.prog w = .ok (.enter f #[x, .pointer (some mp)]) w)
  (hv : Val w f x (.pointer (some mp)) q) : Calls Tryz.prog 210 #[.agg #[.iface y x, .func (.func (cfn k)) #[] #[]], .pointer (some mp)] w fun e w' => e = .returned (.int .i64 (conv k q)) ∧ Below w.heap.size w w' := by
 have M := hid hm
 have V := hid hv
 clear hm hv
 obtain ⟨W, hW⟩ : ∃ W, W = w.alloc (.cells #[.iface y x, .func (.func (cfn k)) #[] #[]] 253) := ⟨_, rfl⟩
 have bW : Below w.heap.size w W := by rw [hW]; exact below1 _ _
 have hc := pair_cells (show W.heap[w.heap.size]? = some (.cells #[.iface y x, .func (.func (cfn k)) #[] #[]] 253 (0, 0)) by rw [hW]; exact heap_alloc_new w _)
 have q0 := cell_regrown hc.1
 have q1 := cell_regrown hc.2.1
 have hsz : w.heap.size ≤ W.heap.size := bW.size
 have BW := hid bW
 have HW := hid hW
 have hent := enters_cfn k h1 h7
 have c60 : ∀ d os, Calls Tryz.prog (cfn k) #[.int .i64 q] (grow (redrawn W d) os) fun e w'' => e = .returned (.int .i64 (conv k q)) ∧ ∃ p : Regrown, w'' = grow (redrawn W p.d) p.os :=
  fun d os => Calls.regrown_same (to_any k q _ h1 h7)
 clear hc bW hW
 go_enter Tryz.func210, Tryz.ntmps210
 go_wp2
 rw [← HW.out]
 refine wp_region_quiet_below (by kernel_rfl) (by kernel_rfl) ?_
 iterate 5 (go_big_quiet_step (fail))
 refine quiet_invoke (by rfl) (.tmp 8) (.tmp 9) vname _ (by rfl) (by rfl) (by rfl) (M.out) (q := .int .i64 q) ?_ ?_
 ·rintro w' ⟨pp, rfl⟩
  exact Calls.regrown_of (V.out _ (BW.out.trans ((below_regrown W pp.d pp.os).mono hsz)))
 change wpQuiet _ _ _ _ _ { tmps := #[.agg #[.iface y x, .func (.func (cfn k)) #[] #[]], .pointer (some mp), .pointer (some ⟨w.heap.size, 0, none⟩), undef, .int .i64 0, .pointer (some ⟨w.heap.size, 1, none⟩), .func (.func (cfn k)) #[] #[], .pointer (some ⟨w.heap.size, 0, none⟩), .iface y x, .pointer (some mp), .int .i64 q, undef], defers := [] }
 go_big_quiet_step (exact c60 _ _)
 go_big_quiet_step (fail)
 refine wpQuiet_nil ?_
 intro _ hw'
 obtain ⟨⟨dq, osq⟩, hw''⟩ := hw'
 subst hw''
 go_wp2
 go_ret
 exact ⟨rfl, BW.out.trans ((below_regrown W dq osq).mono hsz)⟩
def binV (op x y : Int) : Int :=
 if op = 4 then wrap64 (x + y) else if op = 5 then wrap64 (x - y) else if op = 6 then wrap64 (x * y)
 else if op = 7 then (if y = 0 then 0 else wrap64 (x.tdiv y)) else if op = 8 then (if y = 0 then 0 else x.tmod y)
 else if op = 9 then truthI (x == y) else if op = 10 then truthI (decide (x < y)) else if op = 11 then truthI (decide (x ≠ 0 ∧ y ≠ 0)) else if op = 12 then truthI (decide (x ≠ 0 ∨ y ≠ 0))
 else if op = 14 then bits .and .i64 x y else if op = 15 then bits .or .i64 x y else if op = 16 then bits .xor .i64 x y
 else if op = 17 then (if cntS y then wrap64 (x * 2 ^ y.toNat) else 0) else (if cntS y then x / 2 ^ y.toNat else x / 9223372036854775808)
def Both (w : World) (ly ry : Nat) (lx rx p : Value) (x y : Int) : Prop := ∀ w', Below w.heap.size w w' → Calls Tryz.prog 214 #[.agg #[.iface ly lx, .iface ry rx], p] w' fun e w'' => e = .returned (.tuple #[.int .i64 x, .int .i64 y]) ∧ Below w'.heap.size w' w''
set_option maxHeartbeats 800000 in
theorem bin4 (ly ry : Nat) (lx rx p : Value) (x y : Int) (w : World) (hb : Both w ly ry lx rx p x y) : Calls Tryz.prog 225 #[.agg #[.iface ly lx, .iface ry rx], p] w fun e w' => e = .returned (.int .i64 (binV (4) x y)) ∧ Below w.heap.size w w' := by
 have H := hid hb
 have T := hid truth_any
 clear hb
 go_enter Tryz.func225, Tryz.ntmps225
 go_wp2_with (first | (go_at_call 214; refine (H.out _ (below1 _ _)).mono ?_; rintro e w1 ⟨rfl, hb⟩; have B := hid hb; clear hb))
 go_ret
 exact ⟨ret_int (by simp [binV]), (below1 _ _).trans (B.out.mono (by simp))⟩
set_option maxHeartbeats 800000 in
theorem bin5 (ly ry : Nat) (lx rx p : Value) (x y : Int) (w : World) (hb : Both w ly ry lx rx p x y) : Calls Tryz.prog 226 #[.agg #[.iface ly lx, .iface ry rx], p] w fun e w' => e = .returned (.int .i64 (binV (5) x y)) ∧ Below w.heap.size w w' := by
 have H := hid hb
 have T := hid truth_any
 clear hb
 go_enter Tryz.func226, Tryz.ntmps226
 go_wp2_with (first | (go_at_call 214; refine (H.out _ (below1 _ _)).mono ?_; rintro e w1 ⟨rfl, hb⟩; have B := hid hb; clear hb))
 go_ret
 exact ⟨ret_int (by simp [binV]), (below1 _ _).trans (B.out.mono (by simp))⟩
set_option maxHeartbeats 800000 in
theorem bin6 (ly ry : Nat) (lx rx p : Value) (x y : Int) (w : World) (hb : Both w ly ry lx rx p x y) : Calls Tryz.prog 227 #[.agg #[.iface ly lx, .iface ry rx], p] w fun e w' => e = .returned (.int .i64 (binV (6) x y)) ∧ Below w.heap.size w w' := by
 have H := hid hb
 have T := hid truth_any
 clear hb
 go_enter Tryz.func227, Tryz.ntmps227
 go_wp2_with (first | (go_at_call 214; refine (H.out _ (below1 _ _)).mono ?_; rintro e w1 ⟨rfl, hb⟩; have B := hid hb; clear hb))
 go_ret
 exact ⟨ret_int (by simp [binV]), (below1 _ _).trans (B.out.mono (by simp))⟩
set_option maxHeartbeats 800000 in
theorem bin7 (ly ry : Nat) (lx rx p : Value) (x y : Int) (w : World) (hb : Both w ly ry lx rx p x y) : Calls Tryz.prog 228 #[.agg #[.iface ly lx, .iface ry rx], p] w fun e w' => e = .returned (.int .i64 (binV (7) x y)) ∧ Below w.heap.size w w' := by
 have H := hid hb
 have T := hid truth_any
 clear hb
 by_cases hy : y = 0
 ·subst hy
  go_enter Tryz.func228, Tryz.ntmps228
  go_wp2_with (first | (go_at_call 214; refine (H.out _ (below1 _ _)).mono ?_; rintro e w1 ⟨rfl, hb⟩; have B := hid hb; clear hb))
  go_ret
  exact ⟨ret_int (by simp [binV]), (below1 _ _).trans (B.out.mono (by simp))⟩
 ·have hy2 : (y == 0) = false := by simpa using hy
  go_enter Tryz.func228, Tryz.ntmps228
  go_wp2_with (first | (go_at_call 214; refine (H.out _ (below1 _ _)).mono ?_; rintro e w1 ⟨rfl, hb⟩; have B := hid hb; clear hb))
  go_ret
  exact ⟨ret_int (by simp [binV, hy]), (below1 _ _).trans (B.out.mono (by simp))⟩
set_option maxHeartbeats 800000 in
theorem bin8 (ly ry : Nat) (lx rx p : Value) (x y : Int) (w : World) (hb : Both w ly ry lx rx p x y) : Calls Tryz.prog 229 #[.agg #[.iface ly lx, .iface ry rx], p] w fun e w' => e = .returned (.int .i64 (binV (8) x y)) ∧ Below w.heap.size w w' := by
 have H := hid hb
 have T := hid truth_any
 clear hb
 by_cases hy : y = 0
 ·subst hy
  go_enter Tryz.func229, Tryz.ntmps229
  go_wp2_with (first | (go_at_call 214; refine (H.out _ (below1 _ _)).mono ?_; rintro e w1 ⟨rfl, hb⟩; have B := hid hb; clear hb))
  go_ret
  exact ⟨ret_int (by simp [binV]), (below1 _ _).trans (B.out.mono (by simp))⟩
 ·have hy2 : (y == 0) = false := by simpa using hy
  go_enter Tryz.func229, Tryz.ntmps229
  go_wp2_with (first | (go_at_call 214; refine (H.out _ (below1 _ _)).mono ?_; rintro e w1 ⟨rfl, hb⟩; have B := hid hb; clear hb))
  go_ret
  exact ⟨ret_int (by simp [binV, hy]), (below1 _ _).trans (B.out.mono (by simp))⟩
set_option maxHeartbeats 800000 in
theorem bin9 (ly ry : Nat) (lx rx p : Value) (x y : Int) (w : World) (hb : Both w ly ry lx rx p x y) : Calls Tryz.prog 230 #[.agg #[.iface ly lx, .iface ry rx], p] w fun e w' => e = .returned (.int .i64 (binV (9) x y)) ∧ Below w.heap.size w w' := by
 have H := hid hb
 have T := hid truth_any
 clear hb
 go_enter Tryz.func230, Tryz.ntmps230
 go_wp2_with (first | (go_at_call 214; refine (H.out _ (below1 _ _)).mono ?_; rintro e w1 ⟨rfl, hb⟩; have B := hid hb; clear hb) | (go_at_call 213; refine (T.out _ _).mono ?_; rintro e w2 ⟨rfl, hw⟩; obtain rfl := hw.symm))
 go_ret
 exact ⟨ret_int (by simp [binV]), (below1 _ _).trans (B.out.mono (by simp))⟩
set_option maxHeartbeats 800000 in
theorem bin10 (ly ry : Nat) (lx rx p : Value) (x y : Int) (w : World) (hb : Both w ly ry lx rx p x y) : Calls Tryz.prog 231 #[.agg #[.iface ly lx, .iface ry rx], p] w fun e w' => e = .returned (.int .i64 (binV (10) x y)) ∧ Below w.heap.size w w' := by
 have H := hid hb
 have T := hid truth_any
 clear hb
 go_enter Tryz.func231, Tryz.ntmps231
 go_wp2_with (first | (go_at_call 214; refine (H.out _ (below1 _ _)).mono ?_; rintro e w1 ⟨rfl, hb⟩; have B := hid hb; clear hb) | (go_at_call 213; refine (T.out _ _).mono ?_; rintro e w2 ⟨rfl, hw⟩; obtain rfl := hw.symm))
 go_ret
 exact ⟨ret_int (by simp [binV]), (below1 _ _).trans (B.out.mono (by simp))⟩
set_option maxHeartbeats 800000 in
theorem bin11 (ly ry : Nat) (lx rx p : Value) (x y : Int) (w : World) (hb : Both w ly ry lx rx p x y) : Calls Tryz.prog 232 #[.agg #[.iface ly lx, .iface ry rx], p] w fun e w' => e = .returned (.int .i64 (binV (11) x y)) ∧ Below w.heap.size w w' := by
 have H := hid hb
 have T := hid truth_any
 clear hb
 by_cases hx : x = 0
 ·subst hx
  go_enter Tryz.func232, Tryz.ntmps232
  go_wp2_with (first | (go_at_call 214; refine (H.out _ (below1 _ _)).mono ?_; rintro e w1 ⟨rfl, hb⟩; have B := hid hb; clear hb) | (go_at_call 213; refine (T.out _ _).mono ?_; rintro e w2 ⟨rfl, hw⟩; obtain rfl := hw.symm))
  go_ret
  exact ⟨ret_int (by simp [binV]), (below1 _ _).trans (B.out.mono (by simp))⟩
 ·have hx2 : (x != 0) = true := by simpa using hx
  have E : Hid (binV 11 x y = truthI (y != 0)) := hid (by
   by_cases hy : y = 0
   ·simp [binV, hx, hy]
   ·have h2 : (y != 0) = true := by simpa using hy
    simp [binV, hx, hy, h2])
  clear hx
  go_enter Tryz.func232, Tryz.ntmps232
  go_wp2_with (first | (go_at_call 214; refine (H.out _ (below1 _ _)).mono ?_; rintro e w1 ⟨rfl, hb⟩; have B := hid hb; clear hb) | (go_at_call 213; refine (T.out _ _).mono ?_; rintro e w2 ⟨rfl, hw⟩; obtain rfl := hw.symm))
  go_ret
  exact ⟨ret_int (E.out.symm), (below1 _ _).trans (B.out.mono (by simp))⟩
set_option maxHeartbeats 800000 in
theorem bin12 (ly ry : Nat) (lx rx p : Value) (x y : Int) (w : World) (hb : Both w ly ry lx rx p x y) : Calls Tryz.prog 233 #[.agg #[.iface ly lx, .iface ry rx], p] w fun e w' => e = .returned (.int .i64 (binV (12) x y)) ∧ Below w.heap.size w w' := by
 have H := hid hb
 have T := hid truth_any
 clear hb
 by_cases hx : x = 0
 ·subst hx
  have E : Hid (binV 12 0 y = truthI (y != 0)) := hid (by
   by_cases hy : y = 0
   ·simp [binV, hy]
   ·have h2 : (y != 0) = true := by simpa using hy
    simp [binV, hy, h2])
  go_enter Tryz.func233, Tryz.ntmps233
  go_wp2_with (first | (go_at_call 214; refine (H.out _ (below1 _ _)).mono ?_; rintro e w1 ⟨rfl, hb⟩; have B := hid hb; clear hb) | (go_at_call 213; refine (T.out _ _).mono ?_; rintro e w2 ⟨rfl, hw⟩; obtain rfl := hw.symm))
  go_ret
  exact ⟨ret_int (E.out.symm), (below1 _ _).trans (B.out.mono (by simp))⟩
 ·have hx2 : (x != 0) = true := by simpa using hx
  have E : Hid (binV 12 x y = truthI true) := hid (by simp [binV, hx])
  clear hx
  go_enter Tryz.func233, Tryz.ntmps233
  go_wp2_with (first | (go_at_call 214; refine (H.out _ (below1 _ _)).mono ?_; rintro e w1 ⟨rfl, hb⟩; have B := hid hb; clear hb) | (go_at_call 213; refine (T.out _ _).mono ?_; rintro e w2 ⟨rfl, hw⟩; obtain rfl := hw.symm))
  go_ret
  exact ⟨ret_int (E.out.symm), (below1 _ _).trans (B.out.mono (by simp))⟩
set_option maxHeartbeats 800000 in
theorem bin14 (ly ry : Nat) (lx rx p : Value) (x y : Int) (w : World) (hb : Both w ly ry lx rx p x y) : Calls Tryz.prog 234 #[.agg #[.iface ly lx, .iface ry rx], p] w fun e w' => e = .returned (.int .i64 (binV (14) x y)) ∧ Below w.heap.size w w' := by
 have H := hid hb
 have T := hid truth_any
 clear hb
 go_enter Tryz.func234, Tryz.ntmps234
 go_wp2_with (first | (go_at_call 214; refine (H.out _ (below1 _ _)).mono ?_; rintro e w1 ⟨rfl, hb⟩; have B := hid hb; clear hb))
 go_ret
 exact ⟨ret_int (by simp [binV]), (below1 _ _).trans (B.out.mono (by simp))⟩
set_option maxHeartbeats 800000 in
theorem bin15 (ly ry : Nat) (lx rx p : Value) (x y : Int) (w : World) (hb : Both w ly ry lx rx p x y) : Calls Tryz.prog 235 #[.agg #[.iface ly lx, .iface ry rx], p] w fun e w' => e = .returned (.int .i64 (binV (15) x y)) ∧ Below w.heap.size w w' := by
 have H := hid hb
 have T := hid truth_any
 clear hb
 go_enter Tryz.func235, Tryz.ntmps235
 go_wp2_with (first | (go_at_call 214; refine (H.out _ (below1 _ _)).mono ?_; rintro e w1 ⟨rfl, hb⟩; have B := hid hb; clear hb))
 go_ret
 exact ⟨ret_int (by simp [binV]), (below1 _ _).trans (B.out.mono (by simp))⟩
set_option maxHeartbeats 800000 in
theorem bin16 (ly ry : Nat) (lx rx p : Value) (x y : Int) (w : World) (hb : Both w ly ry lx rx p x y) : Calls Tryz.prog 236 #[.agg #[.iface ly lx, .iface ry rx], p] w fun e w' => e = .returned (.int .i64 (binV (16) x y)) ∧ Below w.heap.size w w' := by
 have H := hid hb
 have T := hid truth_any
 clear hb
 go_enter Tryz.func236, Tryz.ntmps236
 go_wp2_with (first | (go_at_call 214; refine (H.out _ (below1 _ _)).mono ?_; rintro e w1 ⟨rfl, hb⟩; have B := hid hb; clear hb))
 go_ret
 exact ⟨ret_int (by simp [binV]), (below1 _ _).trans (B.out.mono (by simp))⟩
set_option maxHeartbeats 800000 in
theorem bin17 (ly ry : Nat) (lx rx p : Value) (x y : Int) (w : World) (hb : Both w ly ry lx rx p x y) : Calls Tryz.prog 237 #[.agg #[.iface ly lx, .iface ry rx], p] w fun e w' => e = .returned (.int .i64 (binV (17) x y)) ∧ Below w.heap.size w w' := by
 have H := hid hb
 have T := hid truth_any
 clear hb
 have C := hid (countOK_any y)
 by_cases hy : 0 ≤ y ∧ y ≤ 63
 ·obtain ⟨h0, h63⟩ := hy
  have hc : cntS y = true := by simp [cntS]; omega
  rw [hc] at C
  go_enter Tryz.func237, Tryz.ntmps237
  go_wp2_with (first | (go_at_call 214; refine (H.out _ (below1 _ _)).mono ?_; rintro e w1 ⟨rfl, hb⟩; have B := hid hb; clear hb) | (go_at_call 238; refine (C.out _).mono ?_; rintro e w2 ⟨rfl, hw⟩; obtain rfl := hw.symm))
  go_ret
  exact ⟨ret_int (by simp [binV, hc]), (below1 _ _).trans (B.out.mono (by simp))⟩
 ·have hc : cntS y = false := by simp [cntS]; omega
  rw [hc] at C
  clear hy
  go_enter Tryz.func237, Tryz.ntmps237
  go_wp2_with (first | (go_at_call 214; refine (H.out _ (below1 _ _)).mono ?_; rintro e w1 ⟨rfl, hb⟩; have B := hid hb; clear hb) | (go_at_call 238; refine (C.out _).mono ?_; rintro e w2 ⟨rfl, hw⟩; obtain rfl := hw.symm))
  go_ret
  exact ⟨ret_int (by simp [binV, hc]), (below1 _ _).trans (B.out.mono (by simp))⟩
set_option maxHeartbeats 800000 in
theorem bin18 (ly ry : Nat) (lx rx p : Value) (x y : Int) (w : World) (hb : Both w ly ry lx rx p x y) : Calls Tryz.prog 239 #[.agg #[.iface ly lx, .iface ry rx], p] w fun e w' => e = .returned (.int .i64 (binV (18) x y)) ∧ Below w.heap.size w w' := by
 have H := hid hb
 have T := hid truth_any
 clear hb
 have C := hid (countOK_any y)
 by_cases hy : 0 ≤ y ∧ y ≤ 63
 ·obtain ⟨h0, h63⟩ := hy
  have hc : cntS y = true := by simp [cntS]; omega
  rw [hc] at C
  go_enter Tryz.func239, Tryz.ntmps239
  go_wp2_with (first | (go_at_call 214; refine (H.out _ (below1 _ _)).mono ?_; rintro e w1 ⟨rfl, hb⟩; have B := hid hb; clear hb) | (go_at_call 238; refine (C.out _).mono ?_; rintro e w2 ⟨rfl, hw⟩; obtain rfl := hw.symm))
  go_ret
  exact ⟨ret_int (by simp [binV, hc]), (below1 _ _).trans (B.out.mono (by simp))⟩
 ·have hc : cntS y = false := by simp [cntS]; omega
  rw [hc] at C
  clear hy
  go_enter Tryz.func239, Tryz.ntmps239
  go_wp2_with (first | (go_at_call 214; refine (H.out _ (below1 _ _)).mono ?_; rintro e w1 ⟨rfl, hb⟩; have B := hid hb; clear hb) | (go_at_call 238; refine (C.out _).mono ?_; rintro e w2 ⟨rfl, hw⟩; obtain rfl := hw.symm))
  go_ret
  exact ⟨ret_int (by simp [binV, hc]), (below1 _ _).trans (B.out.mono (by simp))⟩
theorem bin_any (op : Int) (ly ry : Nat) (lx rx p : Value) (x y : Int) (w : World) (h : binOk op) (hb : Both w ly ry lx rx p x y) : Calls Tryz.prog (binFn op) #[.agg #[.iface ly lx, .iface ry rx], p] w fun e w' => e = .returned (.int .i64 (binV op x y)) ∧ Below w.heap.size w w' := by
 have hk : op = 4 ∨ op = 5 ∨ op = 6 ∨ op = 7 ∨ op = 8 ∨ op = 9 ∨ op = 10 ∨ op = 11 ∨ op = 12 ∨ op = 14 ∨ op = 15 ∨ op = 16 ∨ op = 17 ∨ op = 18 := by unfold binOk at h; omega
 rcases hk with rfl | rfl | rfl | rfl | rfl | rfl | rfl | rfl | rfl | rfl | rfl | rfl | rfl | rfl
 ·exact bin4 ly ry lx rx p x y w hb
 ·exact bin5 ly ry lx rx p x y w hb
 ·exact bin6 ly ry lx rx p x y w hb
 ·exact bin7 ly ry lx rx p x y w hb
 ·exact bin8 ly ry lx rx p x y w hb
 ·exact bin9 ly ry lx rx p x y w hb
 ·exact bin10 ly ry lx rx p x y w hb
 ·exact bin11 ly ry lx rx p x y w hb
 ·exact bin12 ly ry lx rx p x y w hb
 ·exact bin14 ly ry lx rx p x y w hb
 ·exact bin15 ly ry lx rx p x y w hb
 ·exact bin16 ly ry lx rx p x y w hb
 ·exact bin17 ly ry lx rx p x y w hb
 ·exact bin18 ly ry lx rx p x y w hb
def evalT (vals : List Int) (arg : Int) : Tree → Int
 | .nil => 0
 | .node 0 _ n _ _ => n
 | .node 1 _ i _ _ => vals.getD i.toNat 0
 | .node 2 _ _ _ _ => arg
 | .node 3 _ _ t _ => truthI (evalT vals arg t == 0)
 | .node 4 _ k t _ => conv k (evalT vals arg t)
 | .node _ _ op l r => binV op (evalT vals arg l) (evalT vals arg r)
theorem value_any (mb : Nat) (vals : List Int) (arg : Int) : ∀ (t : Tree), WfT vals.length t → ∀ w, MomAt w mb vals arg →
  Calls Tryz.prog (fnOf t) #[pl t, .pointer (some ⟨mb, 0, none⟩)] w fun e w' => e = .returned (.int .i64 (evalT vals arg t)) ∧ Below w.heap.size w w' := by
 intro t
 induction t with
 | nil => intro h; exact absurd h (by simp [WfT])
 | node b o a l r ihl ihr =>
  intro h w hm
  match b, h with
  | 0, h => exact num_any a _ w
  | 1, h => exact var_any mb vals arg a w h.1 h.2 hm
  | 2, h => exact argn_any mb vals arg w hm
  | 3, h =>
   have h' : WfT vals.length l := h
   obtain ⟨y, x, hy⟩ := tv_form l
   have e : pl (.node 3 o a l r) = .agg #[.iface y x] := by rw [← hy]; rfl
   have hx := pl_of hy
   rw [e]
   have hcm := fun w => cm_any _ l h' ⟨mb, 0, none⟩ w
   rw [hy] at hcm
   rw [← hx] at hcm ihl
   exact no_any y (fnOf l) x _ _ w hcm (fun w' hb => ihl h' w' (hm.below hb))
  | 4, h =>
   have h' : (1 ≤ a ∧ a ≤ 7) ∧ WfT vals.length l := h
   obtain ⟨y, x, hy⟩ := tv_form l
   have e : pl (.node 4 o a l r) = .agg #[.iface y x, .func (.func (cfn a)) #[] #[]] := by rw [← hy]; rfl
   have hx := pl_of hy
   rw [e]
   have hcm := fun w => cm_any _ l h'.2 ⟨mb, 0, none⟩ w
   rw [hy] at hcm
   rw [← hx] at hcm ihl
   exact convn_any y (fnOf l) x a _ _ w h'.1.1 h'.1.2 hcm (fun w' hb => ihl h'.2 w' (hm.below hb))
  | 5, h =>
   have h' : binOk a ∧ WfT vals.length l ∧ WfT vals.length r := h
   obtain ⟨ly, lx, hl⟩ := tv_form l
   obtain ⟨ry, rx, hr⟩ := tv_form r
   have e : pl (.node 5 o a l r) = .agg #[.iface ly lx, .iface ry rx] := by rw [← hl, ← hr]; rfl
   have hlx := pl_of hl
   have hrx := pl_of hr
   rw [e]
   have hcl := fun w => cm_any _ l h'.2.1 ⟨mb, 0, none⟩ w
   have hcr := fun w => cm_any _ r h'.2.2 ⟨mb, 0, none⟩ w
   rw [hl] at hcl
   rw [hr] at hcr
   rw [← hlx] at hcl ihl
   rw [← hrx] at hcr ihr
   exact bin_any a ly ry lx rx _ _ _ w h'.1 (fun w' hb => both_any ly ry (fnOf l) (fnOf r) lx rx _ _ _ w' hcl hcr (fun w'' hb2 => ihl h'.2.1 w'' ((hm.below hb).below hb2)) (fun w'' hb2 => ihr h'.2.2 w'' ((hm.below hb).below hb2)))
end Go.Proofs.YtiimkhepplkocaaGreat
namespace Go.Proofs.YtiimkhepplkocaaGreat
open Go.RowKit Go.Sort
theorem stepT_wf {vars op val : Int} {st : List Tree} {p : Tree × List Tree} (h : stepT vars op val st = some p) (hs : ∀ t ∈ st, WfT vars t) : WfT vars p.1 ∧ ∀ t ∈ p.2, WfT vars t := by
 unfold stepT at h
 split at h
 ·split at h <;> simp at h; rename_i hv; subst h; exact ⟨hv, hs⟩
 split at h
 ·split at h <;> simp at h; rename_i hv; subst h; exact ⟨hv, hs⟩
 split at h
 ·split at h
  ·rename_i hv
   split at h <;> simp at h
   subst h
   exact ⟨⟨hv, hs _ (by simp)⟩, fun t ht => hs t (by simp [ht])⟩
  ·simp at h
 split at h
 ·simp at h
 split at h
 ·simp at h; subst h; exact ⟨trivial, hs⟩
 split at h
 ·split at h <;> simp at h
  subst h
  refine ⟨?_, fun t ht => hs t (by simp [ht])⟩
  simp only [WfT]
  exact hs _ (by simp)
 ·split at h
  ·split at h <;> simp at h
   rename_i hop
   subst h
   exact ⟨⟨hop, hs _ (by simp), hs _ (by simp)⟩, fun t ht => hs t (by simp [ht])⟩
  ·simp at h
theorem runT_wf (vars : Int) : ∀ (its : List (Int × Int)) (st st' : List Tree), (∀ t ∈ st, WfT vars t) → runT vars its st = some st' → ∀ t ∈ st', WfT vars t := by
 intro its
 induction its with
 | nil => intro st st' hs h; simp [runT] at h; subst h; exact hs
 | cons x r ih =>
  intro st st' hs h
  simp only [runT] at h
  split at h
  ·rename_i p hp
   obtain ⟨h1, h2⟩ := stepT_wf hp hs
   refine ih _ _ (fun t ht => ?_) h
   rcases List.mem_cons.1 ht with e | ht
   ·rw [e]; exact h1
   ·exact h2 t ht
  ·simp at h
theorem liftT_wf {its : List (Int × Int)} {vars : Int} {t : Tree} (h : liftT its vars = some t) : WfT vars t :=
 runT_wf vars its [] [t] (by simp) (liftT_some h).2.2 t (by simp)
end Go.Proofs.YtiimkhepplkocaaGreat
