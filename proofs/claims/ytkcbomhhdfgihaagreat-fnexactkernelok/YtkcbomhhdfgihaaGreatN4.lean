import Derived.Test.YtkcbomhhdfgihaaGreatN3
namespace Go.Proofs.YtkcbomhhdfgihaaGreat
attribute [local go_sem ↓] Go.wp_at_zero Go.wp_at_succ
open Go.RowKit Go.Sort

/-- What a wrong list is given up with. -/
def Pan (e : Ending) : Prop := ∃ s, e = .panicked [{ v := .iface 179 (.string s), recovered := false }]

/-- All that was there but block sb is as it was. -/
structure Away (sb : Nat) (w w' : World) : Prop where
  os : w'.os = w.os
  tape : w'.tape = w.tape
  output : w'.output = w.output
  size : w.heap.size ≤ w'.heap.size
  block : ∀ k, k < w.heap.size → k ≠ sb → w'.heap[k]? = w.heap[k]?

theorem Away.refl (sb : Nat) (w : World) : Away sb w w := ⟨rfl, rfl, rfl, Nat.le_refl _, fun _ _ _ => rfl⟩

theorem Away.trans {sb : Nat} {a b c : World} (h : Away sb a b) (k : Away sb b c) : Away sb a c :=
  ⟨k.os.trans h.os, k.tape.trans h.tape, k.output.trans h.output, Nat.le_trans h.size k.size, fun i hi hn => (k.block i (Nat.lt_of_lt_of_le hi h.size) hn).trans (h.block i hi hn)⟩

theorem Away.of_below {sb : Nat} {a b : World} (h : Below a.heap.size a b) : Away sb a b := ⟨h.os, h.tape, h.output, h.size, fun i hi _ => h.block i hi⟩

theorem Away.below {sb : Nat} {a b : World} (h : Away sb a b) (hs : sb ≤ a.heap.size) : Below sb a b := ⟨h.os, h.tape, h.output, h.size, fun i hi => h.block i (by omega) (by omega)⟩

theorem Away.set (sb : Nat) (w : World) (o : Nat) (u : Value) : Away sb w (w.setCell ⟨sb, o, none⟩ u) :=
  ⟨rfl, rfl, rfl, by simp, fun i _ hn => Below.heap_setCell _ _ _ _ hn⟩

theorem Away.drew {sb : Nat} {a b : World} (h : Away sb a b) : Away sb a b.drew := ⟨h.os, h.tape, h.output, h.size, h.block⟩

theorem Away.cell {sb : Nat} {a b : World} (h : Away sb a b) {k o : Nat} (hk : k < a.heap.size) (hn : k ≠ sb) : b.cell? ⟨k, o, none⟩ = a.cell? ⟨k, o, none⟩ := World.cell?_of_block (w := a) (h.block k hk hn)

theorem Stk.lt {w : World} {sb : Nat} {st : List Tree} (h : Stk w sb st) : sb < w.heap.size := by obtain ⟨v, hv, _⟩ := h; exact lt_of_block hv

/-- New blocks leave the stack as it is. -/
theorem Stk.below {w w' : World} {sb : Nat} {st : List Tree} (h : Stk w sb st) (hb : Below w.heap.size w w') : Stk w' sb st := by
  obtain ⟨v, hv, ho⟩ := h
  refine ⟨v, (hb.block _ (lt_of_block hv)).trans hv, ho.1, ?_⟩
  rcases ho.2 with h0 | ⟨g, cap, cur, h1, h2, h3, h4⟩
  · exact .inl h0
  · exact .inr ⟨g, cap, cur, h1, h2, (hb.block _ (lt_of_block h3)).trans h3, h4⟩

theorem Away.setNew {sb : Nat} {w w2 : World} (h : Away sb w w2) {H : Nat} (hH : w.heap.size ≤ H) (o : Nat) (u : Value) : Away sb w (w2.setCell ⟨H, o, none⟩ u) :=
  ⟨h.os, h.tape, h.output, by simpa using h.size, fun i hi hn => (Below.heap_setCell _ _ _ _ (by simp; omega)).trans (h.block i hi hn)⟩

theorem Stk.setAt {w : World} {sb : Nat} {st : List Tree} (h : Stk w sb st) {H : Nat} {cs : Array Value} {t : TypeId} {fr : Nat × Nat} (hb : w.heap[H]? = some (.cells cs t fr)) (ht : t ≠ 184) (hH : H ≠ sb) (o : Nat) (u : Value) : Stk (w.setCell ⟨H, o, none⟩ u) sb st := by
  obtain ⟨v, hv, ho⟩ := h
  refine ⟨v, (Below.heap_setCell _ _ _ _ (by simp; omega)).trans hv, ownsRow_setCell_other ho ?_ _⟩
  intro e
  rcases ho.2 with ⟨h0, _⟩ | ⟨g, cap, cur, h1, h2, h3, h4⟩
  · rw [h0] at e; cases e
  · rw [h1] at e
    simp [Value.ownBlock] at e
    subst e
    rw [hb] at h3
    simp at h3
    exact ht h3.2.1

abbrev binOk (op : Int) : Prop := 4 ≤ op ∧ op ≤ 18 ∧ op ≠ 13

set_option maxHeartbeats 4000000 in
theorem liftBinary_yes (op : Int) (l r : Tree) (w : World) (h : binOk op) : Calls Tryz.prog 138 #[.int .i64 op, .agg #[tv l, tv r]] w fun e w' => e = .returned (tv (.bin op l r)) ∧ Below w.heap.size w w' := by
  obtain ⟨ly, lx, hl⟩ := tv_form l
  obtain ⟨ry, rx, hr⟩ := tv_form r
  have hk : op = 4 ∨ op = 5 ∨ op = 6 ∨ op = 7 ∨ op = 8 ∨ op = 9 ∨ op = 10 ∨ op = 11 ∨ op = 12 ∨ op = 14 ∨ op = 15 ∨ op = 16 ∨ op = 17 ∨ op = 18 := by unfold binOk at h; omega
  rw [hl, hr]
  have e : tv (.bin op l r) = .iface (binTy op) (.agg #[.iface ly lx, .iface ry rx]) := by rw [← hl, ← hr]; rfl
  rw [e]
  clear e hl hr
  rcases hk with rfl | rfl | rfl | rfl | rfl | rfl | rfl | rfl | rfl | rfl | rfl | rfl | rfl | rfl
  all_goals
    go_enter Tryz.func138, Tryz.ntmps138
    go_wp2
    go_ret
    exact ⟨rfl, below1 _ _⟩

set_option maxHeartbeats 1000000 in
theorem liftBinary_no (op : Int) (l r : Tree) (w : World) (h : ¬ binOk op) : Calls Tryz.prog 138 #[.int .i64 op, .agg #[tv l, tv r]] w fun e w' => Pan e ∧ Below w.heap.size w w' := by
  obtain ⟨ly, lx, hl⟩ := tv_form l
  obtain ⟨ry, rx, hr⟩ := tv_form r
  rw [hl, hr]
  clear hl hr
  unfold binOk at h
  have e4 : (op == 4) = false := by simp; omega
  have e5 : (op == 5) = false := by simp; omega
  have e6 : (op == 6) = false := by simp; omega
  have e7 : (op == 7) = false := by simp; omega
  have e8 : (op == 8) = false := by simp; omega
  have e9 : (op == 9) = false := by simp; omega
  have e10 : (op == 10) = false := by simp; omega
  have e11 : (op == 11) = false := by simp; omega
  have e12 : (op == 12) = false := by simp; omega
  have e14 : (op == 14) = false := by simp; omega
  have e15 : (op == 15) = false := by simp; omega
  have e16 : (op == 16) = false := by simp; omega
  have e17 : (op == 17) = false := by simp; omega
  have e18 : (op == 18) = false := by simp; omega
  clear h
  go_enter Tryz.func138, Tryz.ntmps138
  go_wp2
  exact ⟨rfl, ⟨_, rfl⟩, below1 _ _⟩

theorem pop_away (sb : Nat) (t : Tree) (st : List Tree) (w : World) (hl : st.length ≤ 1000) (h : Stk w sb (t :: st)) : Calls Tryz.prog 137 #[.pointer (some ⟨sb, 0, none⟩)] w fun e w' => e = .returned (tv t) ∧ Stk w' sb st ∧ Away sb w w' :=
  (pop_yes sb t st w hl h).mono fun e w' ⟨h1, h2, u, h3⟩ => ⟨h1, h2, by rw [h3]; exact Away.set _ _ _ _⟩

theorem pop_pan (sb : Nat) (w : World) (h : Stk w sb []) : Calls Tryz.prog 137 #[.pointer (some ⟨sb, 0, none⟩)] w fun e w' => Pan e ∧ Away sb w w' :=
  (pop_no sb w h).mono fun e w' ⟨h1, h2⟩ => ⟨h1, by rw [h2]; exact Away.refl _ _⟩

theorem away_pair {sb : Nat} {w w' : World} {H : Nat} {a b : Value} {t : TypeId} (h : Away sb w w') (hH : w.heap[H]? = some (.cells #[a, b] t (0, 0))) (hn : H ≠ sb) :
    w'.heap[H]? = some (.cells #[a, b] t (0, 0)) := (h.block H (lt_of_block hH) hn).trans hH

theorem pair_cells {w : World} {H : Nat} {a b : Value} {t : TypeId} (h : w.heap[H]? = some (.cells #[a, b] t (0, 0))) : w.cell? ⟨H, 0, none⟩ = some a ∧ w.cell? ⟨H, 1, none⟩ = some b ∧ w.frozen? ⟨H, 0, none⟩ = false ∧ w.frozen? ⟨H, 1, none⟩ = false := by
  simp [World.cell?, World.frozen?, h]

set_option maxHeartbeats 400000 in
theorem popBoth_yes (sb : Nat) (l r : Tree) (st : List Tree) (w : World) (hl : st.length ≤ 900) (h : Stk w sb (r :: l :: st)) : Calls Tryz.prog 139 #[.pointer (some ⟨sb, 0, none⟩)] w fun e w' => e = .returned (.agg #[tv l, tv r]) ∧ Stk w' sb st ∧ Away sb w w' := by
  have hlt := h.lt
  have h1 := hid (h.below (below1 w (.cells #[.nilIface, .nilIface] 239)))
  have hb0 := hid (heap_alloc_new w (.cells #[.nilIface, .nilIface] 239))
  obtain ⟨ly, lx, hly⟩ := tv_form l
  obtain ⟨ry, rx, hry⟩ := tv_form r
  rw [hly, hry]
  have P1 := hid (pop_away sb r (l :: st))
  have P2 := hid (pop_away sb l st)
  rw [hry] at P1
  rw [hly] at P2
  clear h hly hry
  go_enter Tryz.func139, Tryz.ntmps139
  go_wp2_with (go_at_call 137; refine (P1.out _ (by simp; omega) h1.out).mono ?_; rintro e w1 ⟨rfl, hs1, ha1⟩; have H1 := hid hs1; have A1 := hid ha1; clear hs1 ha1)
  go_wp2_with (go_at_call 137; refine (P2.out _ (by omega) H1.out).mono ?_; rintro e w2 ⟨rfl, hs2, ha2⟩; have H2 := hid hs2; have A2 := hid (A1.out.trans ha2); clear hs2 ha2; obtain ⟨c0, c1, f0, f1⟩ := pair_cells (away_pair A2.out hb0.out (by omega)))
  have b2 := away_pair A2.out hb0.out (by omega)
  have s3 := Stk.setAt H2.out b2 (by decide) (by omega) 0 (Value.iface ly lx)
  have b3 : ∃ cs, (w2.setCell ⟨w.heap.size, 0, none⟩ (Value.iface ly lx)).heap[w.heap.size]? = some (.cells cs 239 (0, 0)) := ⟨_, heap_setCell_same _ _ _ _ _ _ b2⟩
  obtain ⟨cs, b3⟩ := b3
  have s4 := Stk.setAt s3 b3 (by decide) (by omega) 1 (Value.iface ry rx)
  have a2 : Away sb w w2 := (Away.of_below (below1 _ _)).trans A2.out
  exact bodyPost_ret (v := .agg #[.iface ly lx, .iface ry rx]) (by simp [results, Tryz.results139, go_sem, c0, c1]) rfl ⟨rfl, s4, (a2.setNew (Nat.le_refl _) _ _).setNew (Nat.le_refl _) _ _⟩

set_option maxHeartbeats 400000 in
theorem popBoth_no (sb : Nat) (st : List Tree) (w : World) (hl : st.length < 2) (h : Stk w sb st) : Calls Tryz.prog 139 #[.pointer (some ⟨sb, 0, none⟩)] w fun e w' => Pan e ∧ Away sb w w' := by
  have hlt := h.lt
  have h1 := hid (h.below (below1 w (.cells #[.nilIface, .nilIface] 239)))
  clear h
  match st, hl with
  | [], _ =>
    go_enter Tryz.func139, Tryz.ntmps139
    go_wp2_with (go_at_call 137; refine (pop_pan sb _ h1.out).mono ?_; rintro e w1 ⟨⟨s, rfl⟩, ha1⟩; have A1 := hid ha1; clear ha1)
    exact ⟨rfl, ⟨_, rfl⟩, (Away.of_below (below1 _ _)).trans A1.out⟩
  | [r], _ =>
    obtain ⟨ry, rx, hry⟩ := tv_form r
    have P1 := hid (pop_away sb r [])
    rw [hry] at P1
    clear hry
    go_enter Tryz.func139, Tryz.ntmps139
    go_wp2_with (go_at_call 137; refine (P1.out _ (by simp) h1.out).mono ?_; rintro e w1 ⟨rfl, hs1, ha1⟩; have H1 := hid hs1; have A1 := hid ha1; clear hs1 ha1)
    go_wp2_with (go_at_call 137; refine (pop_pan sb _ H1.out).mono ?_; rintro e w2 ⟨⟨s, rfl⟩, ha2⟩; have A2 := hid ha2; clear ha2)
    exact ⟨rfl, ⟨_, rfl⟩, (Away.of_below (below1 _ _)).trans (A1.out.trans A2.out)⟩

end Go.Proofs.YtkcbomhhdfgihaaGreat
