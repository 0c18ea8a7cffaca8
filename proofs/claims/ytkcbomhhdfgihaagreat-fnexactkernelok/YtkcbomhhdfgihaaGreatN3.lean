import Derived.Test.YtkcbomhhdfgihaaGreatN2
import Derived.Deep.Trees
import Derived.WalkSmall
namespace Go.Proofs.YtkcbomhhdfgihaaGreat
open Go.RowKit Go.Sort

set_option maxHeartbeats 400000 in
theorem demand_no (s : ByteArray) (w : World) : Calls Tryz.prog 119 #[.bool false, .string s] w fun e w' => e = .panicked [{ v := .iface 179 (.string s), recovered := false }] ∧ w' = w := by
  go_enter Tryz.func119, Tryz.ntmps119
  go_wp2
  exact ⟨rfl, rfl, rfl⟩

set_option maxHeartbeats 400000 in
theorem demand_yes (s : ByteArray) (w : World) : Calls Tryz.prog 119 #[.bool true, .string s] w fun e w' => e = .returned (.tuple #[]) ∧ w' = w := by
  go_enter Tryz.func119, Tryz.ntmps119
  go_wp2
  go_end0
  exact ⟨rfl, rfl⟩

/-- An expression, lifted. -/
abbrev Tree := Go.Deep.BT Int

abbrev Tree.num (n : Int) : Tree := .node 0 0 n .nil .nil

abbrev Tree.var (i : Int) : Tree := .node 1 0 i .nil .nil

abbrev Tree.arg : Tree := .node 2 0 0 .nil .nil

abbrev Tree.no (t : Tree) : Tree := .node 3 0 0 t .nil

abbrev Tree.conv (k : Int) (t : Tree) : Tree := .node 4 0 k t .nil

abbrev Tree.bin (op : Int) (l r : Tree) : Tree := .node 5 0 op l r

def binTy (op : Int) : Nat := if op ≤ 12 then 240 + op.toNat else 239 + op.toNat

/-- .. as a value. -/
def tv : Tree → Value
  | .nil => .iface 0 (.agg #[])
  | .node 0 _ n _ _ => .iface 228 (.agg #[.int .i64 n])
  | .node 1 _ i _ _ => .iface 230 (.agg #[.int .i64 i])
  | .node 2 _ _ _ _ => .iface 234 (.agg #[])
  | .node 3 _ _ t _ => .iface 236 (.agg #[tv t])
  | .node 4 _ k t _ => .iface 233 (.agg #[tv t, .func (.func (cfn k)) #[] #[]])
  | .node _ _ op l r => .iface (binTy op) (.agg #[tv l, tv r])

theorem tv_form (t : Tree) : ∃ y x, tv t = .iface y x := by unfold tv; split <;> exact ⟨_, _, rfl⟩

/-- The stack lies in block sb and holds these trees, the last pushed first. -/
def Stk (w : World) (sb : Nat) (st : List Tree) : Prop := ∃ v, w.heap[sb]? = some (.cells #[v] 215 (0, 0)) ∧ w.ownsRow (sb + 1) 184 1 v st.length (st.reverse.map tv)

theorem Stk.setOther {w : World} {sb : Nat} {v : Value} (h : w.heap[sb]? = some (.cells #[v] 215 (0, 0))) {v' : Value} {st' : List Tree} (ho' : w.ownsRow (sb + 1) 184 1 v' st'.length (st'.reverse.map tv)) :
    Stk (w.setCell ⟨sb, 0, none⟩ v') sb st' := by
  refine ⟨v', one_setCell h, ownsRow_setCell_other ho' ?_ _⟩
  intro e
  have := ho'.lt sb e
  omega

set_option maxHeartbeats 400000 in
theorem pop_no (sb : Nat) (w : World) (h : Stk w sb []) : Calls Tryz.prog 137 #[.pointer (some ⟨sb, 0, none⟩)] w fun e w' => (∃ s, e = .panicked [{ v := .iface 179 (.string s), recovered := false }]) ∧ w' = w := by
  obtain ⟨v, hv, ho⟩ := h
  have hc := cell_of_one hv
  obtain ⟨ao, cap, rfl⟩ : ∃ ao cap, v = .slice ao 0 cap := by
    rcases ho.2 with ⟨h, _⟩ | ⟨g, cap, cur, h, _⟩
    · exact ⟨none, 0, h⟩
    · exact ⟨_, _, h⟩
  clear ho hv
  go_enter Tryz.func137, Tryz.ntmps137
  go_wp2_with (go_at_call 119; refine (demand_no _ _).mono ?_; rintro e w' ⟨rfl, hw⟩; obtain rfl := hw.symm)
  exact ⟨rfl, ⟨_, rfl⟩, rfl⟩

set_option maxHeartbeats 400000 in
theorem pop_yes (sb : Nat) (t : Tree) (st : List Tree) (w : World) (hl : st.length ≤ 1000) (h : Stk w sb (t :: st)) : Calls Tryz.prog 137 #[.pointer (some ⟨sb, 0, none⟩)] w fun e w' => e = .returned (tv t) ∧ Stk w' sb st ∧ ∃ u, w' = w.setCell ⟨sb, 0, none⟩ u := by
  obtain ⟨v, hv, ho⟩ := h
  have hc := cell_of_one hv
  have hf := free_of_one hv
  rw [List.reverse_cons, List.map_append, List.length_cons] at ho
  obtain ⟨g, cap, hcap, rfl⟩ : ∃ g cap, st.length + 1 ≤ cap ∧ v = .slice (some ⟨g, 0, none⟩) (st.length + 1) cap := by
    rcases ho.2 with ⟨h, h0⟩ | ⟨g, cap, cur, h, _, _, h3, _⟩
    · omega
    · exact ⟨_, _, h3, h⟩
  have hp := ownsRow_pop (by simp) ho
  have hcell : w.cell? ⟨g, st.length, none⟩ = some (tv t) := by
    rw [ho.cellAt st.length (by omega)]; simp
  have R := hid (Stk.setOther hv hp)
  obtain ⟨y, x, hy⟩ := tv_form t
  rw [hy] at hcell ⊢
  obtain ⟨n, hn⟩ : ∃ n, n = st.length := ⟨_, rfl⟩
  rw [← hn] at hcell hc hl R hcap
  clear ho hp hv hy hn
  go_enter Tryz.func137, Tryz.ntmps137
  go_wp2_with (go_at_call 119; refine (demand_yes _ _).mono ?_; rintro e w' ⟨rfl, hw⟩; obtain rfl := hw.symm)
  go_ret
  exact ⟨rfl, R.out, _, rfl⟩

theorem Tryz.info184 : (Tryz.prog.info? 184).map (fun i => (i.zero, i.size, i.bytes)) = some (some .nilIface, 1, 16) := by kernel_rfl

set_option maxHeartbeats 400000 in
theorem push_any (sb : Nat) (t : Tree) (st : List Tree) (w : World) (hl : st.length ≤ 1000) (h : Stk w sb st) : Calls Tryz.prog 130 #[.pointer (some ⟨sb, 0, none⟩), tv t] w fun e w' => e = .returned (.tuple #[]) ∧ Stk w' sb (t :: st) ∧ Below sb w w' := by
  obtain ⟨v, hv, ho⟩ := h
  have hc := cell_of_one hv
  have hlt := lt_of_block hv
  obtain ⟨y, x, hy⟩ := tv_form t
  rw [hy]
  obtain ⟨i0, hi, hz0, hz1, hz2⟩ := info_parts Tryz.info184
  obtain ⟨ao, cap, hvs⟩ : ∃ ao cap, v = .slice ao st.length cap := by
    rcases ho.2 with ⟨h, h0⟩ | ⟨g, cap, cur, h, _⟩
    · exact ⟨none, 0, by rw [h, h0]⟩
    · exact ⟨_, _, h⟩
  have HO : Hid (w.ownsRow (sb + 1) 184 1 v st.length (st.reverse.map tv)) := ho
  have HV := hid hv
  subst hvs
  clear ho hv
  go_enter Tryz.func130, Tryz.ntmps130
  go_wp2_with (at_builtin; refine wpList_append_own _ rfl (.tmp 8) (.tmp 10) 213 rfl (sb + 1) 184 i0 .nilIface 1 16 Tryz.underlying213 hi hz0 hz1 hz2 rfl (by decide) _ _ _ rfl (HO.out.alloc _) ⟨w.heap.size, 0, none⟩ 1 1 [.iface y x] rfl rfl ?c1 ?c2 ?c3 ?c4 ?c5 ?_)
  case c1 =>
    intro j u hj
    match j, hj with
    | 0, hj => simp at hj; subst hj; simp [Addr.add]
  case c2 => intro u hu; simp at hu; subst hu; rfl
  case c3 => unfold maxLen; omega
  case c4 => omega
  case c5 => simp; omega
  · intro v' w1 hown' hgrow _
    obtain ⟨g', cap', hv'⟩ : ∃ g' cap', v' = .slice (some ⟨g', 0, none⟩) (st.length + 1) cap' := by
      rcases hown'.2 with ⟨h, h0⟩ | ⟨g, cap, cur, h, _⟩
      · omega
      · exact ⟨_, _, h⟩
    have hrow : (Value.slice ao st.length cap).ownBlock ≠ some sb := fun e => by have := HO.out.lt sb e; omega
    have hb1 : w1.heap[sb]? = some (.cells #[.slice ao st.length cap] 215 (0, 0)) := by
      rw [grown_block hgrow (by simp; omega) hrow, heap_alloc_old _ _ hlt]; exact HV.out
    have hc1 := cell_of_one hb1
    have hf1 := free_of_one hb1
    have R : Hid (Stk (w1.setCell ⟨sb, 0, none⟩ v') sb (t :: st)) := Stk.setOther hb1 (st' := t :: st) (by rw [List.reverse_cons, List.map_append, List.length_cons]; simpa [hy] using hown')
    have B1 : Hid (Below sb w w1) := (((Below.refl _ _).alloc (Nat.le_of_lt hlt) _).grown hgrow (by simp; omega) (fun k hk => by have := HO.out.lt k hk; omega))
    subst hv'
    clear hown' hgrow hb1
    go_wp2
    go_end0
    exact ⟨rfl, R.out, B1.out.setCell (Nat.le_refl _) _⟩

end Go.Proofs.YtkcbomhhdfgihaaGreat
