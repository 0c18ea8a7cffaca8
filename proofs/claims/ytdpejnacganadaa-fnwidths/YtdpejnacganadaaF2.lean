import Derived.Test.YtdpejnacganadaaF1
namespace Go.Proofs.Ytdpejnacganadaa
open Go.RowKit Go.Sort

set_option maxHeartbeats 800000 in
theorem convn_any (y f : Nat) (x : Value) (k q : Int) (mp : Addr) (w : World) (h1 : 1 ≤ k) (h7 : k ≤ 7)
    (hm : ∀ (w : World), (callMethod (.iface y x) vname #[.pointer (some mp)]).run Try.prog w = .ok (.enter f #[x, .pointer (some mp)]) w)
    (hv : Val w f x (.pointer (some mp)) q) : Calls Try.prog 112 #[.agg #[.iface y x, .func (.func (cfn k)) #[] #[]], .pointer (some mp)] w fun e w' => e = .returned (.int .i64 (conv k q)) ∧ Below w.heap.size w w' := by
  have M := hid hm
  have V := hid hv
  clear hm hv
  obtain ⟨W, hW⟩ : ∃ W, W = w.alloc (.cells #[.iface y x, .func (.func (cfn k)) #[] #[]] 139) := ⟨_, rfl⟩
  have bW : Below w.heap.size w W := by rw [hW]; exact below1 _ _
  have hc := pair_cells (show W.heap[w.heap.size]? = some (.cells #[.iface y x, .func (.func (cfn k)) #[] #[]] 139 (0, 0)) by rw [hW]; exact heap_alloc_new w _)
  have q0 := cell_regrown hc.1
  have q1 := cell_regrown hc.2.1
  have hsz : w.heap.size ≤ W.heap.size := bW.size
  have BW := hid bW
  have HW := hid hW
  have hent := enters_cfn k h1 h7
  have c60 : ∀ d os, Calls Try.prog (cfn k) #[.int .i64 q] (grow (redrawn W d) os) fun e w'' => e = .returned (.int .i64 (conv k q)) ∧ ∃ p : Regrown, w'' = grow (redrawn W p.d) p.os :=
    fun d os => Calls.regrown_same (to_any k q _ h1 h7)
  clear hc bW hW
  go_enter Try.func112, Try.ntmps112
  go_wp2
  rw [← HW.out]
  refine wp_region_quiet_below (by kernel_rfl) (by kernel_rfl) ?_
  iterate 5 (go_big_quiet_step (fail))
  refine quiet_invoke (by rfl) (.tmp 8) (.tmp 9) vname _ (by rfl) (by rfl) (by rfl) (M.out) (q := .int .i64 q) ?_ ?_
  · rintro w' ⟨pp, rfl⟩
    exact Calls.regrown_of (V.out _ (BW.out.trans ((below_regrown W pp.d pp.os).mono hsz)))
  change wpQuiet _ _ _ _ _ { tmps := #[.agg #[.iface y x, .func (.func (cfn k)) #[] #[]], .pointer (some mp), .pointer (some ⟨w.heap.size, 0, none⟩), undef, .int .i64 0, .pointer (some ⟨w.heap.size, 1, none⟩), .func (.func (cfn k)) #[] #[], .pointer (some ⟨w.heap.size, 0, none⟩), .iface y x, .pointer (some mp), .int .i64 q, undef], defers := [] }
  go_big_quiet_step (exact c60 _ _)
  go_big_quiet_step (fail)
  refine wpQuiet_nil ?_
  intro _ hw'
  obtain ⟨⟨dq, osq⟩, hw''⟩ := hw'
  subst hw''
  go_wp2
  go_ret
  exact ⟨rfl, BW.out.trans ((below_regrown W dq osq).mono hsz)⟩

/-- What an operation makes of its two operands. -/
def binV (op x y : Int) : Int :=
  if op = 4 then wrap64 (x + y) else if op = 5 then wrap64 (x - y) else if op = 6 then wrap64 (x * y)
  else if op = 7 then (if y = 0 then 0 else wrap64 (x.tdiv y)) else if op = 8 then (if y = 0 then 0 else x.tmod y)
  else if op = 9 then truthI (x == y) else if op = 10 then truthI (decide (x < y)) else if op = 11 then truthI (decide (x ≠ 0 ∧ y ≠ 0)) else if op = 12 then truthI (decide (x ≠ 0 ∨ y ≠ 0))
  else if op = 14 then bits .and .i64 x y else if op = 15 then bits .or .i64 x y else if op = 16 then bits .xor .i64 x y
  else if op = 17 then (if cntB y then wrap64 (x * 2 ^ y.toNat) else 0) else (if cntB y then x / 2 ^ y.toNat else x / 9223372036854775808)

def Both (w : World) (ly ry : Nat) (lx rx p : Value) (x y : Int) : Prop := ∀ w', Below w.heap.size w w' → Calls Try.prog 116 #[.agg #[.iface ly lx, .iface ry rx], p] w' fun e w'' => e = .returned (.tuple #[.int .i64 x, .int .i64 y]) ∧ Below w'.heap.size w' w''

set_option maxHeartbeats 800000 in
theorem bin4 (ly ry : Nat) (lx rx p : Value) (x y : Int) (w : World) (hb : Both w ly ry lx rx p x y) : Calls Try.prog 117 #[.agg #[.iface ly lx, .iface ry rx], p] w fun e w' => e = .returned (.int .i64 (binV (4) x y)) ∧ Below w.heap.size w w' := by
  have H := hid hb
  have T := hid truth_any
  clear hb
  go_enter Try.func117, Try.ntmps117
  go_wp2_with (first | (go_at_call 116; refine (H.out _ (below1 _ _)).mono ?_; rintro e w1 ⟨rfl, hb⟩; have B := hid hb; clear hb))
  go_ret
  exact ⟨ret_int (by simp [binV]), (below1 _ _).trans (B.out.mono (by simp))⟩

set_option maxHeartbeats 800000 in
theorem bin5 (ly ry : Nat) (lx rx p : Value) (x y : Int) (w : World) (hb : Both w ly ry lx rx p x y) : Calls Try.prog 118 #[.agg #[.iface ly lx, .iface ry rx], p] w fun e w' => e = .returned (.int .i64 (binV (5) x y)) ∧ Below w.heap.size w w' := by
  have H := hid hb
  have T := hid truth_any
  clear hb
  go_enter Try.func118, Try.ntmps118
  go_wp2_with (first | (go_at_call 116; refine (H.out _ (below1 _ _)).mono ?_; rintro e w1 ⟨rfl, hb⟩; have B := hid hb; clear hb))
  go_ret
  exact ⟨ret_int (by simp [binV]), (below1 _ _).trans (B.out.mono (by simp))⟩

set_option maxHeartbeats 800000 in
theorem bin6 (ly ry : Nat) (lx rx p : Value) (x y : Int) (w : World) (hb : Both w ly ry lx rx p x y) : Calls Try.prog 119 #[.agg #[.iface ly lx, .iface ry rx], p] w fun e w' => e = .returned (.int .i64 (binV (6) x y)) ∧ Below w.heap.size w w' := by
  have H := hid hb
  have T := hid truth_any
  clear hb
  go_enter Try.func119, Try.ntmps119
  go_wp2_with (first | (go_at_call 116; refine (H.out _ (below1 _ _)).mono ?_; rintro e w1 ⟨rfl, hb⟩; have B := hid hb; clear hb))
  go_ret
  exact ⟨ret_int (by simp [binV]), (below1 _ _).trans (B.out.mono (by simp))⟩

set_option maxHeartbeats 800000 in
theorem bin7 (ly ry : Nat) (lx rx p : Value) (x y : Int) (w : World) (hb : Both w ly ry lx rx p x y) : Calls Try.prog 120 #[.agg #[.iface ly lx, .iface ry rx], p] w fun e w' => e = .returned (.int .i64 (binV (7) x y)) ∧ Below w.heap.size w w' := by
  have H := hid hb
  have T := hid truth_any
  clear hb
  by_cases hy : y = 0
  · subst hy
    go_enter Try.func120, Try.ntmps120
    go_wp2_with (first | (go_at_call 116; refine (H.out _ (below1 _ _)).mono ?_; rintro e w1 ⟨rfl, hb⟩; have B := hid hb; clear hb))
    go_ret
    exact ⟨ret_int (by simp [binV]), (below1 _ _).trans (B.out.mono (by simp))⟩
  · have hy2 : (y == 0) = false := by simpa using hy
    go_enter Try.func120, Try.ntmps120
    go_wp2_with (first | (go_at_call 116; refine (H.out _ (below1 _ _)).mono ?_; rintro e w1 ⟨rfl, hb⟩; have B := hid hb; clear hb))
    go_ret
    exact ⟨ret_int (by simp [binV, hy]), (below1 _ _).trans (B.out.mono (by simp))⟩

set_option maxHeartbeats 800000 in
theorem bin8 (ly ry : Nat) (lx rx p : Value) (x y : Int) (w : World) (hb : Both w ly ry lx rx p x y) : Calls Try.prog 121 #[.agg #[.iface ly lx, .iface ry rx], p] w fun e w' => e = .returned (.int .i64 (binV (8) x y)) ∧ Below w.heap.size w w' := by
  have H := hid hb
  have T := hid truth_any
  clear hb
  by_cases hy : y = 0
  · subst hy
    go_enter Try.func121, Try.ntmps121
    go_wp2_with (first | (go_at_call 116; refine (H.out _ (below1 _ _)).mono ?_; rintro e w1 ⟨rfl, hb⟩; have B := hid hb; clear hb))
    go_ret
    exact ⟨ret_int (by simp [binV]), (below1 _ _).trans (B.out.mono (by simp))⟩
  · have hy2 : (y == 0) = false := by simpa using hy
    go_enter Try.func121, Try.ntmps121
    go_wp2_with (first | (go_at_call 116; refine (H.out _ (below1 _ _)).mono ?_; rintro e w1 ⟨rfl, hb⟩; have B := hid hb; clear hb))
    go_ret
    exact ⟨ret_int (by simp [binV, hy]), (below1 _ _).trans (B.out.mono (by simp))⟩

set_option maxHeartbeats 800000 in
theorem bin9 (ly ry : Nat) (lx rx p : Value) (x y : Int) (w : World) (hb : Both w ly ry lx rx p x y) : Calls Try.prog 122 #[.agg #[.iface ly lx, .iface ry rx], p] w fun e w' => e = .returned (.int .i64 (binV (9) x y)) ∧ Below w.heap.size w w' := by
  have H := hid hb
  have T := hid truth_any
  clear hb
  go_enter Try.func122, Try.ntmps122
  go_wp2_with (first | (go_at_call 116; refine (H.out _ (below1 _ _)).mono ?_; rintro e w1 ⟨rfl, hb⟩; have B := hid hb; clear hb) | (go_at_call 115; refine (T.out _ _).mono ?_; rintro e w2 ⟨rfl, hw⟩; obtain rfl := hw.symm))
  go_ret
  exact ⟨ret_int (by simp [binV]), (below1 _ _).trans (B.out.mono (by simp))⟩

set_option maxHeartbeats 800000 in
theorem bin10 (ly ry : Nat) (lx rx p : Value) (x y : Int) (w : World) (hb : Both w ly ry lx rx p x y) : Calls Try.prog 123 #[.agg #[.iface ly lx, .iface ry rx], p] w fun e w' => e = .returned (.int .i64 (binV (10) x y)) ∧ Below w.heap.size w w' := by
  have H := hid hb
  have T := hid truth_any
  clear hb
  go_enter Try.func123, Try.ntmps123
  go_wp2_with (first | (go_at_call 116; refine (H.out _ (below1 _ _)).mono ?_; rintro e w1 ⟨rfl, hb⟩; have B := hid hb; clear hb) | (go_at_call 115; refine (T.out _ _).mono ?_; rintro e w2 ⟨rfl, hw⟩; obtain rfl := hw.symm))
  go_ret
  exact ⟨ret_int (by simp [binV]), (below1 _ _).trans (B.out.mono (by simp))⟩

set_option maxHeartbeats 800000 in
theorem bin11 (ly ry : Nat) (lx rx p : Value) (x y : Int) (w : World) (hb : Both w ly ry lx rx p x y) : Calls Try.prog 124 #[.agg #[.iface ly lx, .iface ry rx], p] w fun e w' => e = .returned (.int .i64 (binV (11) x y)) ∧ Below w.heap.size w w' := by
  have H := hid hb
  have T := hid truth_any
  clear hb
  by_cases hx : x = 0
  · subst hx
    go_enter Try.func124, Try.ntmps124
    go_wp2_with (first | (go_at_call 116; refine (H.out _ (below1 _ _)).mono ?_; rintro e w1 ⟨rfl, hb⟩; have B := hid hb; clear hb) | (go_at_call 115; refine (T.out _ _).mono ?_; rintro e w2 ⟨rfl, hw⟩; obtain rfl := hw.symm))
    go_ret
    exact ⟨ret_int (by simp [binV]), (below1 _ _).trans (B.out.mono (by simp))⟩
  · have hx2 : (x != 0) = true := by simpa using hx
    have E : Hid (binV 11 x y = truthI (y != 0)) := hid (by
      by_cases hy : y = 0
      · simp [binV, hx, hy]
      · have h2 : (y != 0) = true := by simpa using hy
        simp [binV, hx, hy, h2])
    clear hx
    go_enter Try.func124, Try.ntmps124
    go_wp2_with (first | (go_at_call 116; refine (H.out _ (below1 _ _)).mono ?_; rintro e w1 ⟨rfl, hb⟩; have B := hid hb; clear hb) | (go_at_call 115; refine (T.out _ _).mono ?_; rintro e w2 ⟨rfl, hw⟩; obtain rfl := hw.symm))
    go_ret
    exact ⟨ret_int (E.out.symm), (below1 _ _).trans (B.out.mono (by simp))⟩

set_option maxHeartbeats 800000 in
theorem bin12 (ly ry : Nat) (lx rx p : Value) (x y : Int) (w : World) (hb : Both w ly ry lx rx p x y) : Calls Try.prog 125 #[.agg #[.iface ly lx, .iface ry rx], p] w fun e w' => e = .returned (.int .i64 (binV (12) x y)) ∧ Below w.heap.size w w' := by
  have H := hid hb
  have T := hid truth_any
  clear hb
  by_cases hx : x = 0
  · subst hx
    have E : Hid (binV 12 0 y = truthI (y != 0)) := hid (by
      by_cases hy : y = 0
      · simp [binV, hy]
      · have h2 : (y != 0) = true := by simpa using hy
        simp [binV, hy, h2])
    go_enter Try.func125, Try.ntmps125
    go_wp2_with (first | (go_at_call 116; refine (H.out _ (below1 _ _)).mono ?_; rintro e w1 ⟨rfl, hb⟩; have B := hid hb; clear hb) | (go_at_call 115; refine (T.out _ _).mono ?_; rintro e w2 ⟨rfl, hw⟩; obtain rfl := hw.symm))
    go_ret
    exact ⟨ret_int (E.out.symm), (below1 _ _).trans (B.out.mono (by simp))⟩
  · have hx2 : (x != 0) = true := by simpa using hx
    have E : Hid (binV 12 x y = truthI true) := hid (by simp [binV, hx])
    clear hx
    go_enter Try.func125, Try.ntmps125
    go_wp2_with (first | (go_at_call 116; refine (H.out _ (below1 _ _)).mono ?_; rintro e w1 ⟨rfl, hb⟩; have B := hid hb; clear hb) | (go_at_call 115; refine (T.out _ _).mono ?_; rintro e w2 ⟨rfl, hw⟩; obtain rfl := hw.symm))
    go_ret
    exact ⟨ret_int (E.out.symm), (below1 _ _).trans (B.out.mono (by simp))⟩

set_option maxHeartbeats 800000 in
theorem bin14 (ly ry : Nat) (lx rx p : Value) (x y : Int) (w : World) (hb : Both w ly ry lx rx p x y) : Calls Try.prog 126 #[.agg #[.iface ly lx, .iface ry rx], p] w fun e w' => e = .returned (.int .i64 (binV (14) x y)) ∧ Below w.heap.size w w' := by
  have H := hid hb
  have T := hid truth_any
  clear hb
  go_enter Try.func126, Try.ntmps126
  go_wp2_with (first | (go_at_call 116; refine (H.out _ (below1 _ _)).mono ?_; rintro e w1 ⟨rfl, hb⟩; have B := hid hb; clear hb))
  go_ret
  exact ⟨ret_int (by simp [binV]), (below1 _ _).trans (B.out.mono (by simp))⟩

set_option maxHeartbeats 800000 in
theorem bin15 (ly ry : Nat) (lx rx p : Value) (x y : Int) (w : World) (hb : Both w ly ry lx rx p x y) : Calls Try.prog 127 #[.agg #[.iface ly lx, .iface ry rx], p] w fun e w' => e = .returned (.int .i64 (binV (15) x y)) ∧ Below w.heap.size w w' := by
  have H := hid hb
  have T := hid truth_any
  clear hb
  go_enter Try.func127, Try.ntmps127
  go_wp2_with (first | (go_at_call 116; refine (H.out _ (below1 _ _)).mono ?_; rintro e w1 ⟨rfl, hb⟩; have B := hid hb; clear hb))
  go_ret
  exact ⟨ret_int (by simp [binV]), (below1 _ _).trans (B.out.mono (by simp))⟩

set_option maxHeartbeats 800000 in
theorem bin16 (ly ry : Nat) (lx rx p : Value) (x y : Int) (w : World) (hb : Both w ly ry lx rx p x y) : Calls Try.prog 128 #[.agg #[.iface ly lx, .iface ry rx], p] w fun e w' => e = .returned (.int .i64 (binV (16) x y)) ∧ Below w.heap.size w w' := by
  have H := hid hb
  have T := hid truth_any
  clear hb
  go_enter Try.func128, Try.ntmps128
  go_wp2_with (first | (go_at_call 116; refine (H.out _ (below1 _ _)).mono ?_; rintro e w1 ⟨rfl, hb⟩; have B := hid hb; clear hb))
  go_ret
  exact ⟨ret_int (by simp [binV]), (below1 _ _).trans (B.out.mono (by simp))⟩

set_option maxHeartbeats 800000 in
theorem bin17 (ly ry : Nat) (lx rx p : Value) (x y : Int) (w : World) (hb : Both w ly ry lx rx p x y) : Calls Try.prog 129 #[.agg #[.iface ly lx, .iface ry rx], p] w fun e w' => e = .returned (.int .i64 (binV (17) x y)) ∧ Below w.heap.size w w' := by
  have H := hid hb
  have T := hid truth_any
  clear hb
  have C := hid (countOK_any y)
  by_cases hy : 0 ≤ y ∧ y ≤ 63
  · obtain ⟨h0, h63⟩ := hy
    have hc : cntB y = true := by simp [cntB]; omega
    rw [hc] at C
    go_enter Try.func129, Try.ntmps129
    go_wp2_with (first | (go_at_call 116; refine (H.out _ (below1 _ _)).mono ?_; rintro e w1 ⟨rfl, hb⟩; have B := hid hb; clear hb) | (go_at_call 130; refine (C.out _).mono ?_; rintro e w2 ⟨rfl, hw⟩; obtain rfl := hw.symm))
    go_ret
    exact ⟨ret_int (by simp [binV, hc]), (below1 _ _).trans (B.out.mono (by simp))⟩
  · have hc : cntB y = false := by simp [cntB]; omega
    rw [hc] at C
    clear hy
    go_enter Try.func129, Try.ntmps129
    go_wp2_with (first | (go_at_call 116; refine (H.out _ (below1 _ _)).mono ?_; rintro e w1 ⟨rfl, hb⟩; have B := hid hb; clear hb) | (go_at_call 130; refine (C.out _).mono ?_; rintro e w2 ⟨rfl, hw⟩; obtain rfl := hw.symm))
    go_ret
    exact ⟨ret_int (by simp [binV, hc]), (below1 _ _).trans (B.out.mono (by simp))⟩

set_option maxHeartbeats 800000 in
theorem bin18 (ly ry : Nat) (lx rx p : Value) (x y : Int) (w : World) (hb : Both w ly ry lx rx p x y) : Calls Try.prog 131 #[.agg #[.iface ly lx, .iface ry rx], p] w fun e w' => e = .returned (.int .i64 (binV (18) x y)) ∧ Below w.heap.size w w' := by
  have H := hid hb
  have T := hid truth_any
  clear hb
  have C := hid (countOK_any y)
  by_cases hy : 0 ≤ y ∧ y ≤ 63
  · obtain ⟨h0, h63⟩ := hy
    have hc : cntB y = true := by simp [cntB]; omega
    rw [hc] at C
    go_enter Try.func131, Try.ntmps131
    go_wp2_with (first | (go_at_call 116; refine (H.out _ (below1 _ _)).mono ?_; rintro e w1 ⟨rfl, hb⟩; have B := hid hb; clear hb) | (go_at_call 130; refine (C.out _).mono ?_; rintro e w2 ⟨rfl, hw⟩; obtain rfl := hw.symm))
    go_ret
    exact ⟨ret_int (by simp [binV, hc]), (below1 _ _).trans (B.out.mono (by simp))⟩
  · have hc : cntB y = false := by simp [cntB]; omega
    rw [hc] at C
    clear hy
    go_enter Try.func131, Try.ntmps131
    go_wp2_with (first | (go_at_call 116; refine (H.out _ (below1 _ _)).mono ?_; rintro e w1 ⟨rfl, hb⟩; have B := hid hb; clear hb) | (go_at_call 130; refine (C.out _).mono ?_; rintro e w2 ⟨rfl, hw⟩; obtain rfl := hw.symm))
    go_ret
    exact ⟨ret_int (by simp [binV, hc]), (below1 _ _).trans (B.out.mono (by simp))⟩

theorem bin_any (op : Int) (ly ry : Nat) (lx rx p : Value) (x y : Int) (w : World) (h : binOk op) (hb : Both w ly ry lx rx p x y) : Calls Try.prog (binFn op) #[.agg #[.iface ly lx, .iface ry rx], p] w fun e w' => e = .returned (.int .i64 (binV op x y)) ∧ Below w.heap.size w w' := by
  have hk : op = 4 ∨ op = 5 ∨ op = 6 ∨ op = 7 ∨ op = 8 ∨ op = 9 ∨ op = 10 ∨ op = 11 ∨ op = 12 ∨ op = 14 ∨ op = 15 ∨ op = 16 ∨ op = 17 ∨ op = 18 := by unfold binOk at h; omega
  rcases hk with rfl | rfl | rfl | rfl | rfl | rfl | rfl | rfl | rfl | rfl | rfl | rfl | rfl | rfl
  · exact bin4 ly ry lx rx p x y w hb
  · exact bin5 ly ry lx rx p x y w hb
  · exact bin6 ly ry lx rx p x y w hb
  · exact bin7 ly ry lx rx p x y w hb
  · exact bin8 ly ry lx rx p x y w hb
  · exact bin9 ly ry lx rx p x y w hb
  · exact bin10 ly ry lx rx p x y w hb
  · exact bin11 ly ry lx rx p x y w hb
  · exact bin12 ly ry lx rx p x y w hb
  · exact bin14 ly ry lx rx p x y w hb
  · exact bin15 ly ry lx rx p x y w hb
  · exact bin16 ly ry lx rx p x y w hb
  · exact bin17 ly ry lx rx p x y w hb
  · exact bin18 ly ry lx rx p x y w hb

/-- The value of a tree. -/
def evalT (vals : List Int) (arg : Int) : Tree → Int
  | .nil => 0
  | .node 0 _ n _ _ => n
  | .node 1 _ i _ _ => vals.getD i.toNat 0
  | .node 2 _ _ _ _ => arg
  | .node 3 _ _ t _ => truthI (evalT vals arg t == 0)
  | .node 4 _ k t _ => conv k (evalT vals arg t)
  | .node _ _ op l r => binV op (evalT vals arg l) (evalT vals arg r)

theorem value_any (mb : Nat) (vals : List Int) (arg : Int) : ∀ (t : Tree), WfT vals.length t → ∀ w, MomAt w mb vals arg →
    Calls Try.prog (fnOf t) #[pl t, .pointer (some ⟨mb, 0, none⟩)] w fun e w' => e = .returned (.int .i64 (evalT vals arg t)) ∧ Below w.heap.size w w' := by
  intro t
  induction t with
  | nil => intro h; exact absurd h (by simp [WfT])
  | node b o a l r ihl ihr =>
    intro h w hm
    match b, h with
    | 0, h => exact num_any a _ w
    | 1, h => exact var_any mb vals arg a w h.1 h.2 hm
    | 2, h => exact argn_any mb vals arg w hm
    | 3, h =>
      have h' : WfT vals.length l := h
      obtain ⟨y, x, hy⟩ := tv_form l
      have e : pl (.node 3 o a l r) = .agg #[.iface y x] := by rw [← hy]; rfl
      have hx := pl_of hy
      rw [e]
      have hcm := fun w => cm_any _ l h' ⟨mb, 0, none⟩ w
      rw [hy] at hcm
      rw [← hx] at hcm ihl
      exact no_any y (fnOf l) x _ _ w hcm (fun w' hb => ihl h' w' (hm.below hb))
    | 4, h =>
      have h' : (1 ≤ a ∧ a ≤ 7) ∧ WfT vals.length l := h
      obtain ⟨y, x, hy⟩ := tv_form l
      have e : pl (.node 4 o a l r) = .agg #[.iface y x, .func (.func (cfn a)) #[] #[]] := by rw [← hy]; rfl
      have hx := pl_of hy
      rw [e]
      have hcm := fun w => cm_any _ l h'.2 ⟨mb, 0, none⟩ w
      rw [hy] at hcm
      rw [← hx] at hcm ihl
      exact convn_any y (fnOf l) x a _ _ w h'.1.1 h'.1.2 hcm (fun w' hb => ihl h'.2 w' (hm.below hb))
    | 5, h =>
      have h' : binOk a ∧ WfT vals.length l ∧ WfT vals.length r := h
      obtain ⟨ly, lx, hl⟩ := tv_form l
      obtain ⟨ry, rx, hr⟩ := tv_form r
      have e : pl (.node 5 o a l r) = .agg #[.iface ly lx, .iface ry rx] := by rw [← hl, ← hr]; rfl
      have hlx := pl_of hl
      have hrx := pl_of hr
      rw [e]
      have hcl := fun w => cm_any _ l h'.2.1 ⟨mb, 0, none⟩ w
      have hcr := fun w => cm_any _ r h'.2.2 ⟨mb, 0, none⟩ w
      rw [hl] at hcl
      rw [hr] at hcr
      rw [← hlx] at hcl ihl
      rw [← hrx] at hcr ihr
      exact bin_any a ly ry lx rx _ _ _ w h'.1 (fun w' hb => both_any ly ry (fnOf l) (fnOf r) lx rx _ _ _ w' hcl hcr (fun w'' hb2 => ihl h'.2.1 w'' ((hm.below hb).below hb2)) (fun w'' hb2 => ihr h'.2.2 w'' ((hm.below hb).below hb2)))
end Go.Proofs.Ytdpejnacganadaa
