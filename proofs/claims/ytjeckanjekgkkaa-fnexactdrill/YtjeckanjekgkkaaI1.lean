import Derived.Test.YtjeckanjekgkkaaS6
import Derived.Deep.LoopGhost
namespace Go.Proofs.Ytjeckanjekgkkaa
open Go.RowKit Go.Sort
attribute [local go_sem ↓] Go.wp_at_zero Go.wp_at_succ

/-- Nodes as pointers. -/
def ptrs (N : Nat → Nat) (l : List Nat) : List Value := l.map fun (k : Nat) => .pointer (some ⟨N k, 0, none⟩)
theorem ptrs_len (N : Nat → Nat) (l : List Nat) : (ptrs N l).length = l.length := by simp [ptrs]
theorem Try.info50 : (Try.prog.info? 50).map (fun i => (i.zero, i.size, i.bytes)) = some (some (.pointer none), 1, 8) := by kernel_rfl
def OwnP (w w' : World) (v : Value) (N : Nat → Nat) (l : List Nat) : Prop := w'.ownsRow w.heap.size 50 1 v l.length (ptrs N l)
def parV (N : Nat → Nat) (ss : List StD) (k : Nat) : Value := if k = 0 then .pointer none else .pointer (some ⟨N (par ss k).toNat, 0, none⟩)
def iniV (N : Nat → Nat) (ss : List StD) (k : Nat) : Value := if ini ss k < 0 then .pointer none else .pointer (some ⟨N (ini ss k).toNat, 0, none⟩)
/-- The nodes of n states lie there. -/
def Nodes (w : World) (N : Nat → Nat) (ss : List StD) (n : Nat) : Prop :=
  ∀ k, k < n → N k < w.heap.size ∧ w.cell? ⟨N k, 0, none⟩ = some (.int .i64 (k : Int)) ∧ w.cell? ⟨N k, 1, none⟩ = some (parV N ss k)
def NodesI (w : World) (N : Nat → Nat) (ss : List StD) (n : Nat) : Prop := Nodes w N ss n ∧ ∀ k, k < n → w.cell? ⟨N k, 2, none⟩ = some (iniV N ss k)
theorem Nodes.below {w w' : World} {N : Nat → Nat} {ss : List StD} {n : Nat} (h : Nodes w N ss n) (hb : Below w.heap.size w w') : Nodes w' N ss n := fun k hk => by
  obtain ⟨h1, h2, h3⟩ := h k hk
  exact ⟨Nat.lt_of_lt_of_le h1 hb.size, (hb.cell (p := ⟨N k, 0, none⟩) h1).trans h2, (hb.cell (p := ⟨N k, 1, none⟩) h1).trans h3⟩
theorem NodesI.below {w w' : World} {N : Nat → Nat} {ss : List StD} {n : Nat} (h : NodesI w N ss n) (hb : Below w.heap.size w w') : NodesI w' N ss n :=
  ⟨h.1.below hb, fun k hk => (hb.cell (p := ⟨N k, 2, none⟩) (h.1 k hk).1).trans (h.2 k hk)⟩
theorem Nodes.inj {w : World} {N : Nat → Nat} {ss : List StD} {n : Nat} (h : Nodes w N ss n) {i j : Nat} (hi : i < n) (hj : j < n) (e : N i = N j) : i = j := by
  have h1 := (h i hi).2.1
  have h2 := (h j hj).2.1
  rw [e, h2] at h1
  simp at h1
  omega
theorem slice_of {w : World} {base : Nat} {e : TypeId} {size : Nat} {v : Value} {n : Nat} {xs : List Value} (h : w.ownsRow base e size v n xs) : ∃ ao cap, v = .slice ao n cap := by
  rcases h.2 with ⟨h, h0⟩ | ⟨g, cap, cur, h, _⟩
  · exact ⟨none, 0, by rw [h, h0]⟩
  · exact ⟨_, _, h⟩
theorem news_one (w : World) (x : Value) (t : TypeId) : ∀ j u, [x][j]? = some u → (w.alloc (.cells #[x] t)).cell? ((⟨w.heap.size, 0, none⟩ : Addr).add j) = some u := cell_one_new w x t

set_option maxHeartbeats 1600000 in
theorem path_any (N : Nat → Nat) (ss : List StD) (T : TreeOK ss) (h200 : ss.length ≤ 200) (k : Nat) (hk : k < ss.length) (w : World) (hN : Nodes w N ss ss.length) :
    Calls Try.prog 28 #[.pointer (some ⟨N k, 0, none⟩)] w fun e w' => ∃ g cap, e = .returned (.slice (some ⟨g, 0, none⟩) (up ss k).length cap) ∧ OwnP w w' (.slice (some ⟨g, 0, none⟩) (up ss k).length cap) N (up ss k) ∧ Below w.heap.size w w' := by
  obtain ⟨i0, hi, hz0, hz1, hz2⟩ := info_parts Try.info50
  have HN := hid hN
  clear hN
  have HU := hid (up_len T k hk)
  go_enter Try.func28, Try.ntmps28
  go_wp2
  go_loopg [3, 4] (k + 1) (fun m l p wr => Below w.heap.size w wr ∧ ∃ pre : List Nat, wr.ownsRow w.heap.size 50 1 l pre.length (ptrs N pre) ∧ ((m = 0 ∧ p = .pointer none ∧ pre = up ss k) ∨ ∃ j, j < ss.length ∧ m = j + 1 ∧ p = .pointer (some ⟨N j, 0, none⟩) ∧ up ss k = pre ++ up ss j))
  case atStart => exact ⟨Below.refl _ _, [], World.ownsRow_nil _ _ _ _, .inr ⟨k, hk, rfl, rfl, rfl⟩⟩
  case round =>
    obtain ⟨hb, pre, ho, hcase⟩ := hrel
    have HB := hid hb
    have HO := hid ho
    obtain ⟨ao, cap, hv⟩ := slice_of ho
    subst hv
    clear hb ho
    rcases hcase with ⟨rfl, rfl, rfl⟩ | ⟨j, hj, rfl, rfl, hpre⟩
    · go_wp2
      go_ret
      have hpos : 0 < (up ss k).length := by rw [up_form T hk]; simp
      obtain ⟨g, cap', e, _, _⟩ := World.ownsRow.form HO.out hpos
      exact ⟨g, cap', by rw [← e]; rfl, by rw [← e]; exact HO.out, HB.out⟩
    · obtain ⟨n1, n2, n3⟩ := HN.out j hj
      have hlen : pre.length + 1 ≤ 300 := by
        have := HU.out
        rw [hpre, List.length_append, up_form T hj, List.length_cons] at this
        omega
      have HP := hid hpre
      by_cases h0 : j = 0
      · subst h0
        have n3' : w.cell? ⟨N 0, 1, none⟩ = some (.pointer none) := by rw [n3]; rfl
        clear n2 n3 hpre
        go_wp2_with (at_builtin; refine wpList_append_lies _ rfl (.tmp 12) (.tmp 14) 46 rfl w.heap.size 50 i0 _ 1 8 Try.underlying46 hi hz0 hz1 hz2 rfl (by decide) _ _ _ rfl (HO.out.alloc _) ⟨wr.heap.size, 0, none⟩ 1 1 [.pointer (some ⟨N 0, 0, none⟩)] rfl rfl (news_one _ _ _) (by intro u hu; simp at hu; subst hu; rfl) (by omega) (by unfold maxLen; omega) (by omega) (by have := HB.out.size; simp; omega) (wr.heap.size + 1) (by simp) ?_)
        intro g cap' w2 hown hgrow _ _
        have B2 : Hid (Below w.heap.size w w2) := hid ((HB.out.alloc HB.out.size _).grown hgrow (by have := HB.out.size; simp; omega) (fun kk e => (HO.out.lt kk e).1))
        have c1 := (B2.out.cell (p := ⟨N 0, 1, none⟩) n1).trans n3'
        have O2 := hid hown
        clear hown hgrow
        go_wp2
        go_roundg 0
        case measure => omega
        case rel => exact ⟨B2.out, up ss k, by rw [HP.out, up_zero]; simpa [ptrs] using O2.out, .inl ⟨rfl, rfl, rfl⟩⟩
      · have ht := T.2 j (by omega) hj
        obtain ⟨p, hp⟩ : ∃ p : Nat, par ss j = p := ⟨(par ss j).toNat, by omega⟩
        have n3' : w.cell? ⟨N j, 1, none⟩ = some (.pointer (some ⟨N p, 0, none⟩)) := by rw [n3, parV, if_neg h0, hp, Int.toNat_natCast]
        have HQ : Hid (up ss k = (pre ++ [j]) ++ up ss p) := hid (by rw [hpre, up_pos T (by omega) hj, hp, Int.toNat_natCast]; simp)
        have hpj : p < j := by omega
        clear n2 n3 hpre ht hp
        go_wp2_with (at_builtin; refine wpList_append_lies _ rfl (.tmp 12) (.tmp 14) 46 rfl w.heap.size 50 i0 _ 1 8 Try.underlying46 hi hz0 hz1 hz2 rfl (by decide) _ _ _ rfl (HO.out.alloc _) ⟨wr.heap.size, 0, none⟩ 1 1 [.pointer (some ⟨N j, 0, none⟩)] rfl rfl (news_one _ _ _) (by intro u hu; simp at hu; subst hu; rfl) (by omega) (by unfold maxLen; omega) (by omega) (by have := HB.out.size; simp; omega) (wr.heap.size + 1) (by simp) ?_)
        intro g cap' w2 hown hgrow _ _
        have B2 : Hid (Below w.heap.size w w2) := hid ((HB.out.alloc HB.out.size _).grown hgrow (by have := HB.out.size; simp; omega) (fun kk e => (HO.out.lt kk e).1))
        have c1 := (B2.out.cell (p := ⟨N j, 1, none⟩) n1).trans n3'
        have O2 := hid hown
        clear hown hgrow
        go_wp2
        go_roundg (p + 1)
        case measure => omega
        case rel => exact ⟨B2.out, pre ++ [j], by simpa [ptrs] using O2.out, .inr ⟨p, by omega, rfl, rfl, HQ.out⟩⟩
end Go.Proofs.Ytjeckanjekgkkaa
