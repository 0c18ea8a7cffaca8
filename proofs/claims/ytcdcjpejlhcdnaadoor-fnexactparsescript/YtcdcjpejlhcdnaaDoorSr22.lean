import Derived.Test.YtcdcjpejlhcdnaaDoorSr21
namespace Go.Proofs.YtcdcjpejlhcdnaaDoor
open Go.RowKit Go.Sort
set_option linter.unusedVariables false
attribute [local go_sem ↓] Go.wp_at_zero Go.wp_at_succ

/-- A row that holds numbers; one whose numbers go up from k. -/
def IntsR (w : World) (B : Nat) (e : TypeId) (size : Nat) (v : Value) (n : Nat) : Prop := ∃ xs, w.ownsRow B e size v n xs ∧ ∀ j, j < n * size → ∃ z, xs[j]? = some (.int .i64 z)
def MkdR (w : World) (B : Nat) (e : TypeId) (size : Nat) (v : Value) (n : Nat) (k : Int) : Prop := ∃ xs, w.ownsRow B e size v n xs ∧ ∀ j, j < n * size → xs[j]? = some (.int .i64 (k + j))
/-- Only that row was written. -/
structure Only (v : Value) (w w' : World) : Prop where
  os : w'.os = w.os
  tape : w'.tape = w.tape
  output : w'.output = w.output
  size : w'.heap.size = w.heap.size
  block : ∀ q, v.ownBlock ≠ some q → w'.heap[q]? = w.heap[q]?
theorem Only.refl (v : Value) (w : World) : Only v w w := ⟨rfl, rfl, rfl, rfl, fun _ _ => rfl⟩
theorem Only.trans {v : Value} {a b c : World} (h : Only v a b) (k : Only v b c) : Only v a c := ⟨k.os.trans h.os, k.tape.trans h.tape, k.output.trans h.output, k.size.trans h.size, fun q hq => (k.block q hq).trans (h.block q hq)⟩
theorem Only.set {g n c o : Nat} {w : World} (u : Value) : Only (.slice (some ⟨g, 0, none⟩) n c) w (w.setCell ⟨g, o, none⟩ u) := ⟨rfl, rfl, rfl, by simp, fun q hq => Below.heap_setCell _ _ _ _ (fun e => hq (by simp [Value.ownBlock]; exact e.symm))⟩
theorem Only.drew {v : Value} {a b : World} (h : Only v a b) : Only v a b.drew := ⟨h.os, h.tape, h.output, h.size, h.block⟩
theorem Only.below {v : Value} {w w' : World} {L : Nat} (h : Only v w w') (hL : ∀ b, v.ownBlock = some b → L ≤ b) : Below L w w' := ⟨h.os, h.tape, h.output, Nat.le_of_eq h.size.symm, fun k hk => h.block k (fun e => by have := hL k e; omega)⟩
theorem Only.own {v : Value} {w w' : World} {B : Nat} {e : TypeId} {size : Nat} {v2 : Value} {n : Nat} {xs : List Value} (h : Only v w w') (ho : w.ownsRow B e size v2 n xs) (hne : ∀ b, v2.ownBlock = some b → v.ownBlock ≠ some b) : w'.ownsRow B e size v2 n xs := row_same ho (fun b _ hb => h.block b (hne b hb))
theorem scCells_int : ∀ (es : List ScI) (j : Nat), j < es.length * 4 → ∃ z, (scCells es)[j]? = some (.int .i64 z)
  | [], j, h => by simp at h
  | e :: r, 0, _ => ⟨_, rfl⟩
  | e :: r, 1, _ => ⟨_, rfl⟩
  | e :: r, 2, _ => ⟨_, rfl⟩
  | e :: r, 3, _ => ⟨_, rfl⟩
  | e :: r, j + 4, h => by
    obtain ⟨z, hz⟩ := scCells_int r j (by simp at h; omega)
    exact ⟨z, by simpa [scCells] using hz⟩
theorem ints_sc {w : World} {B : Nat} {v : Value} {es : List ScI} (h : w.ownsRow B 31 4 v es.length (scCells es)) : IntsR w B 31 4 v es.length := ⟨_, h, scCells_int es⟩

set_option maxRecDepth 100000 in
set_option maxHeartbeats 2000000 in
theorem markSc_own (B : Nat) (v : Value) (n : Nat) (k : Int) (w : World) (h0 : 0 ≤ k) (h1 : k + 4 * n ≤ 1099511627776) (h : IntsR w B 31 4 v n) :
    Calls Tryd.prog 7 #[v, .int .i64 k] w fun e w' => e = .returned (.int .i64 (k + 4 * n)) ∧ MkdR w' B 31 4 v n k ∧ Only v w w' := by
  have HR := hid h
  obtain ⟨xs, ho, hz⟩ := h
  rcases ho.2 with ⟨rfl, rfl⟩ | ⟨g, cap, cur, rfl, _⟩
  · clear ho hz
    go_enter Tryd.func7, Tryd.ntmps7
    go_wp2
    go_loopw [1, 5] (fun kv i wr => wr = w ∧ i = .int .i64 0 ∧ kv = .int .i64 k) (fun _ _ _ => 0)
    case atStart => exact ⟨rfl, rfl, rfl⟩
    case round =>
      obtain ⟨rfl, rfl, rfl⟩ := hrel
      go_wp2
      go_ret
      obtain ⟨xs, ho, _⟩ := HR.out
      exact ⟨by simp, ⟨xs, ho, fun j hj => by simp at hj⟩, Only.refl _ _⟩
  · clear ho hz
    go_enter Tryd.func7, Tryd.ntmps7
    go_wp2
    go_loopw [1, 5] (fun kv i wr => ∃ a : Nat, a ≤ n ∧ i = .int .i64 a ∧ kv = .int .i64 (k + 4 * a) ∧ Hid (∃ xs, wr.ownsRow B 31 4 (.slice (some ⟨g, 0, none⟩) n cap) n xs ∧ (∀ j, j < n * 4 → ∃ z, xs[j]? = some (.int .i64 z)) ∧ ∀ j, j < a * 4 → xs[j]? = some (.int .i64 (k + j))) ∧ Hid (Only (.slice (some ⟨g, 0, none⟩) n cap) w wr)) (fun _ i _ => n - (intOf i).toNat)
    case atStart =>
      obtain ⟨xs, ho, hz⟩ := HR.out
      exact ⟨0, Nat.zero_le _, rfl, by simp, hid ⟨xs, ho, hz, fun j hj => by omega⟩, hid (Only.refl _ _)⟩
    case round =>
      obtain ⟨a, ha, rfl, rfl, HO, HB⟩ := hrel
      by_cases hlt : a < n
      · obtain ⟨xs, ho, hz, hm⟩ := HO.out
        obtain ⟨z0, e0⟩ := hz (a * 4) (by omega)
        obtain ⟨z1, e1⟩ := hz (a * 4 + 1) (by omega)
        obtain ⟨z2, e2⟩ := hz (a * 4 + 2) (by omega)
        obtain ⟨z3, e3⟩ := hz (a * 4 + 3) (by omega)
        have d0 := (World.ownsRow.cellAt ho (a * 4) (by omega)).trans e0
        have d1 := (World.ownsRow.cellAt ho (a * 4 + 1) (by omega)).trans e1
        have d2 := (World.ownsRow.cellAt ho (a * 4 + 2) (by omega)).trans e2
        have d3 := (World.ownsRow.cellAt ho (a * 4 + 3) (by omega)).trans e3
        have f0 := World.ownsRow.frozenAt ho (a * 4)
        have f1 := World.ownsRow.frozenAt ho (a * 4 + 1)
        have f2 := World.ownsRow.frozenAt ho (a * 4 + 2)
        have f3 := World.ownsRow.frozenAt ho (a * 4 + 3)
        have OO := hid ho
        have HZ := hid hz
        have HM := hid hm
        have HL := hid ho.1
        have an : (a : Int) < (n : Int) := by omega
        obtain ⟨kk, hkk⟩ : ∃ kk, kk = k + 4 * (a : Int) := ⟨_, rfl⟩
        have HK := hid hkk
        have kb0 : 0 ≤ kk := by omega
        have kb1 : kk ≤ 1099511627776 := by omega
        rw [← hkk]
        clear ho hz hm e0 e1 e2 e3 hkk
        go_wp2
        go_roundw
        case rel =>
          have hk := HK.out
          have hl := HL.out
          refine ⟨a + 1, by omega, by go_num, by first | (congr 1; omega) | (simp; omega), hid ⟨_, (World.ownsRow.stored (World.ownsRow.stored (World.ownsRow.stored (World.ownsRow.stored OO.out (a * 4) _).1 (a * 4 + 1) _).1 (a * 4 + 2) _).1 (a * 4 + 3) _).1, fun j hj => ?_, fun j hj => ?_⟩, hid ((((HB.out.trans (Only.set _)).trans (Only.set _)).trans (Only.set _)).trans (Only.set _))⟩
          · simp only [List.getElem?_set, List.length_set]
            split
            · rw [if_pos (by omega)]; exact ⟨_, rfl⟩
            · split
              · rw [if_pos (by omega)]; exact ⟨_, rfl⟩
              · split
                · rw [if_pos (by omega)]; exact ⟨_, rfl⟩
                · split
                  · rw [if_pos (by omega)]; exact ⟨_, rfl⟩
                  · exact HZ.out j hj
          · simp only [List.getElem?_set, List.length_set]
            split
            · rename_i e; rw [if_pos (by omega)]; congr 2; omega
            · split
              · rename_i e; rw [if_pos (by omega)]; congr 2; omega
              · split
                · rename_i e; rw [if_pos (by omega)]; congr 2; omega
                · split
                  · rename_i e; rw [if_pos (by omega)]; congr 2; omega
                  · exact HM.out j (by omega)
        case measure => simp [intOf]; omega
      · have e : a = n := by omega
        subst e
        go_wp2
        go_ret
        obtain ⟨xs, ho, hz, hm⟩ := HO.out
        exact ⟨rfl, ⟨xs, ho, fun j hj => hm j (by omega)⟩, HB.out⟩

set_option maxRecDepth 100000 in
set_option maxHeartbeats 2000000 in
theorem heldSc_own (B : Nat) (v : Value) (n : Nat) (k : Int) (w : World) (h0 : 0 ≤ k) (h1 : k + 4 * n ≤ 1099511627776) (h : MkdR w B 31 4 v n k) :
    Calls Tryd.prog 8 #[v, .int .i64 k] w fun e w' => e = .returned (.int .i64 (k + 4 * n)) ∧ w' = w := by
  obtain ⟨xs, ho, hm⟩ := h
  have HO := hid ho
  have HM := hid hm
  rcases ho.2 with ⟨rfl, rfl⟩ | ⟨g, cap, cur, rfl, _⟩
  · clear ho hm
    go_enter Tryd.func8, Tryd.ntmps8
    go_wp2
    go_loopw [1, 5] (fun kv i wr => wr = w ∧ i = .int .i64 0 ∧ kv = .int .i64 k) (fun _ _ _ => 0)
    case atStart => exact ⟨rfl, rfl, rfl⟩
    case round =>
      obtain ⟨rfl, rfl, rfl⟩ := hrel
      go_wp2
      go_ret
      exact ⟨by simp, rfl⟩
  · clear ho hm
    go_enter Tryd.func8, Tryd.ntmps8
    go_wp2
    go_loopw [1, 5] (fun kv i wr => wr = w ∧ ∃ a : Nat, a ≤ n ∧ i = .int .i64 a ∧ kv = .int .i64 (k + 4 * a)) (fun _ i _ => n - (intOf i).toNat)
    case atStart => exact ⟨rfl, 0, Nat.zero_le _, rfl, by simp⟩
    case round =>
      obtain ⟨rfl, a, ha, rfl, rfl⟩ := hrel
      by_cases hlt : a < n
      · obtain ⟨kk, hkk⟩ : ∃ kk, kk = k + 4 * (a : Int) := ⟨_, rfl⟩
        have d0 := (World.ownsRow.cellAt HO.out (a * 4) (by omega)).trans (HM.out (a * 4) (by omega))
        have d1 := (World.ownsRow.cellAt HO.out (a * 4 + 1) (by omega)).trans (HM.out (a * 4 + 1) (by omega))
        have d2 := (World.ownsRow.cellAt HO.out (a * 4 + 2) (by omega)).trans (HM.out (a * 4 + 2) (by omega))
        have d3 := (World.ownsRow.cellAt HO.out (a * 4 + 3) (by omega)).trans (HM.out (a * 4 + 3) (by omega))
        rw [show k + ((a * 4 : Nat) : Int) = kk by omega] at d0
        rw [show k + ((a * 4 + 1 : Nat) : Int) = kk + 1 by omega] at d1
        rw [show k + ((a * 4 + 2 : Nat) : Int) = kk + 1 + 1 by omega] at d2
        rw [show k + ((a * 4 + 3 : Nat) : Int) = kk + 1 + 1 + 1 by omega] at d3
        have an : (a : Int) < (n : Int) := by omega
        have HK := hid hkk
        have kb0 : 0 ≤ kk := by omega
        have kb1 : kk ≤ 1099511627776 := by omega
        rw [← hkk]
        clear hkk
        go_wp2
        go_roundw
        case rel =>
          have hk := HK.out
          exact ⟨by first | rfl | trivial, a + 1, by omega, by go_num, by first | (congr 1; omega) | (simp; omega)⟩
        case measure => simp [intOf]; omega
      · have e : a = n := by omega
        subst e
        go_wp2
        go_ret
        exact ⟨rfl, rfl⟩
set_option maxHeartbeats 400000 in
theorem eqSc_same (k a b v : Int) (w : World) :
    Calls Tryd.prog 13 #[.agg #[.int .i64 k, .int .i64 a, .int .i64 b, .int .i64 v], .agg #[.int .i64 k, .int .i64 a, .int .i64 b, .int .i64 v]] w fun e w' => e = .returned (.bool true) ∧ Below w.heap.size w w' := by
  go_enter Tryd.func13, Tryd.ntmps13
  go_wp2
  go_ret
  exact ⟨rfl, below2 _ _ _⟩

theorem scCells_get : ∀ (es : List ScI) (k : Nat), k < es.length → ∃ x : ScI, (scCells es)[k * 4]? = some (.int .i64 x.k) ∧ (scCells es)[k * 4 + 1]? = some (.int .i64 x.o) ∧ (scCells es)[k * 4 + 2]? = some (.int .i64 x.s) ∧ (scCells es)[k * 4 + 3]? = some (.int .i64 x.v)
  | [], k, h => by simp at h
  | e :: r, 0, _ => ⟨e, rfl, rfl, rfl, rfl⟩
  | e :: r, k + 1, h => by
    obtain ⟨x, h1, h2, h3, h4⟩ := scCells_get r k (by simpa using h)
    refine ⟨x, ?_, ?_, ?_, ?_⟩
    · rw [show (k + 1) * 4 = k * 4 + 4 by omega]; simpa [scCells] using h1
    · rw [show (k + 1) * 4 + 1 = k * 4 + 1 + 4 by omega]; simpa [scCells] using h2
    · rw [show (k + 1) * 4 + 2 = k * 4 + 2 + 4 by omega]; simpa [scCells] using h3
    · rw [show (k + 1) * 4 + 3 = k * 4 + 3 + 4 by omega]; simpa [scCells] using h4

theorem own_any {w : World} {B : Nat} {e : TypeId} {size : Nat} {v : Value} {n : Nat} {xs : List Value} (h : w.ownsRow B e size v n xs) : ∃ ao c, v = .slice ao n c := by
  rcases h.2 with ⟨e, rfl⟩ | ⟨g, cap, cur, e, _⟩
  · exact ⟨none, 0, e⟩
  · exact ⟨_, cap, e⟩

set_option maxHeartbeats 800000 in
theorem eqScS_same (v1 v2 : Value) (B1 B2 : Nat) (es : List ScI) (w : World) (hn : es.length ≤ 1048576) (hx : w.ownsRow B1 31 4 v1 es.length (scCells es)) (hy : w.ownsRow B2 31 4 v2 es.length (scCells es)) :
    Calls Tryd.prog 6 #[v1, v2] w fun e w' => e = .returned (.bool true) ∧ Below w.heap.size w w' := by
  obtain ⟨ao, c, rfl⟩ := own_any hx
  obtain ⟨bo, d, rfl⟩ := own_any hy
  obtain ⟨n, hnn⟩ : ∃ n, n = es.length := ⟨_, rfl⟩
  rw [← hnn] at hx hy hn ⊢
  have HX := hid hx
  have HY := hid hy
  have HN := hid hnn
  clear hx hy hnn
  go_enter Tryd.func6, Tryd.ntmps6
  go_wp2
  go_loopw [5] (fun i wr => ∃ k : Nat, k ≤ n ∧ i = .int .i64 k ∧ Below w.heap.size w wr) (fun i _ => n - (intOf i).toNat)
  case atStart => exact ⟨0, Nat.zero_le _, rfl, Below.refl _ _⟩
  case round =>
    obtain ⟨k, hk, rfl, hb⟩ := hrel
    have HB := hid hb
    by_cases hlt : k < n
    · obtain ⟨b, cap, e1, _, hbl⟩ := World.ownsRow.form HX.out (by omega)
      obtain ⟨b2, cap2, e2, _, hbl2⟩ := World.ownsRow.form HY.out (by omega)
      simp only [Value.slice.injEq, true_and] at e1 e2
      obtain ⟨rfl, rfl⟩ := e1
      obtain ⟨rfl, rfl⟩ := e2
      have hi : (k : Int) < (n : Int) := by omega
      obtain ⟨x, c1, c2, c3, c4⟩ := scCells_get es k (by rw [← HN.out]; exact hlt)
      have rc : ∀ j, j < n * 4 → ∀ u, (scCells es)[j]? = some u → wr.cell? ⟨b, j, none⟩ = some u := fun j hj u hu => (hb.cell (p := ⟨b, j, none⟩) hbl).trans ((World.ownsRow.cellAt HX.out j hj).trans hu)
      have rd : ∀ j, j < n * 4 → ∀ u, (scCells es)[j]? = some u → wr.cell? ⟨b2, j, none⟩ = some u := fun j hj u hu => (hb.cell (p := ⟨b2, j, none⟩) hbl2).trans ((World.ownsRow.cellAt HY.out j hj).trans hu)
      have k1 := cell_regrown (rc (k * 4) (by omega) _ c1)
      have k2 := cell_regrown (rc (k * 4 + 1) (by omega) _ c2)
      have k3 := cell_regrown (rc (k * 4 + 2) (by omega) _ c3)
      have k4 := cell_regrown (rc (k * 4 + 3) (by omega) _ c4)
      have l1 := cell_regrown (rd (k * 4) (by omega) _ c1)
      have l2 := cell_regrown (rd (k * 4 + 1) (by omega) _ c2)
      have l3 := cell_regrown (rd (k * 4 + 2) (by omega) _ c3)
      have l4 := cell_regrown (rd (k * 4 + 3) (by omega) _ c4)
      have c47 : ∀ d os, Calls Tryd.prog 13 #[.agg #[.int .i64 x.k, .int .i64 x.o, .int .i64 x.s, .int .i64 x.v], .agg #[.int .i64 x.k, .int .i64 x.o, .int .i64 x.s, .int .i64 x.v]] (grow (redrawn wr d) os) fun e w'' => e = .returned (.bool true) ∧ ∃ p : Regrown, w'' = grow (redrawn wr p.d) p.os :=
        fun d os => Calls.regrown_of (eqSc_same x.k x.o x.s x.v _)
      obtain ⟨kd, av, bv, vv⟩ := x
      simp only at k1 k2 k3 k4 l1 l2 l3 l4 c47
      clear rc rd c1 c2 c3 c4 hb
      go_wp2
      refine wp_region_quiet_below (by kernel_rfl) (by kernel_rfl) ?_
      repeat (any_goals (first | go_big_quiet_step (first | exact c47 _ _) | quiet_step (first | exact c47 _ _)))
      refine wpQuiet_nil ?_
      intro _ hw'
      obtain ⟨⟨dq, osq⟩, hw''⟩ := hw'
      subst hw''
      go_wp2
      go_roundw
      case rel => exact ⟨k + 1, by omega, by go_num, HB.out.trans ((below_regrown wr dq osq).mono HB.out.size)⟩
      case measure => simp [intOf]; omega
    · have e : k = n := by omega
      subst e
      clear hb
      go_wp2
      go_ret
      exact ⟨rfl, HB.out⟩

theorem scr_len : ∀ (ls : List (List UInt8)) (n : Nat) (acc : List ScI), (scr ls n acc).1.length ≤ acc.length + ls.length
  | [], n, acc => by simp [scr]
  | l :: r, n, acc => by
    unfold scr
    split
    · have := scr_len r (n + 1) acc; simp; omega
    · split
      · simp
      · rename_i it _
        split
        · simp
        · have := scr_len r (n + 1) (acc ++ [it]); simp at this ⊢; omega
theorem scrT_len (t : List UInt8) : (scrT t).1.length ≤ 30001 := by
  unfold scrT
  split
  · simp
  · have h1 := scr_len (cut 10 t) 0 []
    have h2 := cut_len 10 t
    simp at h1
    omega
end Go.Proofs.YtcdcjpejlhcdnaaDoor
