import Derived.Test.YtiimkhepplkocaaGreatZ2
namespace Go.Proofs.YtiimkhepplkocaaGreat
open Go.RowKit Go.Sort
set_option linter.unusedVariables false
attribute [local go_sem ↓] Go.wp_at_zero Go.wp_at_succ

theorem infoS_move : (Tryz.prog.info? 114).map (fun i => (i.zero, i.size, i.bytes)) = some (some (.slice none 0 0), 1, 24) := by kernel_rfl
theorem infoS_stmNode : (Tryz.prog.info? 118).map (fun i => (i.zero, i.size, i.bytes)) = some (some (.slice none 0 0), 1, 24) := by kernel_rfl

/-- What the first loop has made. -/
structure L1 (w : World) (cx lx : Array Value) (N : Nat → Nat) (tg tcap : Nat) (ss : List StD) (n : Nat) (l : LimD) (B P M : Nat) (k kf : Nat) (E F : List Value) (ev xv : Value) (L : Nat → Value) (X : World) : Prop where
  hB : w.heap.size + 1 < B
  mb : MB w cx lx N tg tcap ss n P X
  mac : Mac X B M (.slice (some ⟨tg, 0, none⟩) n tcap) ev xv (.slice (some ⟨B, 0, none⟩) n n) (.map (some P)) E F
  row : X.rowIs B 114 n L
  le : E.length = k
  lf : F.length = kf
  ce : ∀ i, i < k → StmR X w.heap.size l (E.getD i undef) (ss.getD i st0).entry
  cf : ∀ i, i < kf → StmR X w.heap.size l (F.getD i undef) (ss.getD i st0).exit
theorem getD_snoc {α : Type} (l : List α) (x d : α) (i : Nat) : (l ++ [x]).getD i d = if i < l.length then l.getD i d else if i = l.length then x else d := by
  simp only [List.getD_eq_getElem?_getD]
  by_cases h : i < l.length
  · rw [if_pos h, List.getElem?_append_left h]
  · rw [if_neg h, List.getElem?_append_right (by omega)]
    by_cases e : i = l.length
    · subst e; simp
    · rw [if_neg e, List.getElem?_eq_none (by simp; omega)]; rfl
theorem L1.below {w : World} {cx lx : Array Value} {N : Nat → Nat} {tg tcap : Nat} {ss : List StD} {n : Nat} {l : LimD} {B P M k kf : Nat} {E F : List Value} {ev xv : Value} {L : Nat → Value} {X Y : World} (h : L1 w cx lx N tg tcap ss n l B P M k kf E F ev xv L X) (hb : Below X.heap.size X Y) : L1 w cx lx N tg tcap ss n l B P M k kf E F ev xv L Y :=
  ⟨h.hB, h.mb.below hb, h.mac.below hb, h.row.of_block (hb.block _ h.row.lt), h.le, h.lf, fun i hi => (h.ce i hi).turn (S := fun _ => False) (B2 := 0) (Turn.of_below hb) (fun x => x), fun i hi => (h.cf i hi).turn (S := fun _ => False) (B2 := 0) (Turn.of_below hb) (fun x => x)⟩

theorem L1.entry {w : World} {cx lx : Array Value} {N : Nat → Nat} {tg tcap : Nat} {ss : List StD} {n : Nat} {l : LimD} {B P M k kf : Nat} {E F : List Value} {ev xv val : Value} {L : Nat → Value} {X Y Z : World} {g cap : Nat} (h : L1 w cx lx N tg tcap ss n l B P M k kf E F ev xv L X) (hb : Below X.heap.size X Y) (hv : StmR Y w.heap.size l val (ss.getD k st0).entry) (hg : Y.grownBy Z ev.ownBlock)
    (ho : Z.ownsRow B 118 1 (.slice (some ⟨g, 0, none⟩) (E.length + 1) cap) (E.length + 1) (E ++ [val])) (hat : ev.ownBlock = some g ∨ g = Y.heap.size) :
    L1 w cx lx N tg tcap ss n l B P M (k + 1) kf (E ++ [val]) F (.slice (some ⟨g, 0, none⟩) (E.length + 1) cap) xv L (Z.setCell ⟨M, 1, none⟩ (.slice (some ⟨g, 0, none⟩) (E.length + 1) cap)) ∧ Turn S1 B X (Z.setCell ⟨M, 1, none⟩ (.slice (some ⟨g, 0, none⟩) (E.length + 1) cap)) := by
  obtain ⟨m1, t1⟩ := mac_entry h.mac hb hg ho hat
  have hY := h.below hb
  have bY := hY.mac.box
  have nm := own_far hY.mac.e (by decide) bY
  have bZ : Z.heap[M]? = _ := (hg.block M (lt_of_block bY) (fun e => nm e.symm)).trans bY
  have tY : Turn S1 B Y (Z.setCell ⟨M, 1, none⟩ (.slice (some ⟨g, 0, none⟩) (E.length + 1) cap)) := (Turn.grown hY.mac.e (.inl rfl) hg).trans (Turn.set bZ (.inr rfl) h.mac.hB _)
  have hB := h.hB
  refine ⟨⟨h.hB, h.mb.turn t1 (by omega) (by simp [S1]) (by simp [S1]) (by simp [S1]) (by simp [S1]), m1, rowIs_turn h.row t1 (by simp [S1]), by simp [h.le], h.lf, fun i hi => ?_, fun i hi => (h.cf i hi).turn t1 (by simp [S1])⟩, t1⟩
  have hle := h.le
  rw [getD_snoc]
  by_cases e : i < k
  · rw [if_pos (by omega)]; exact (h.ce i e).turn t1 (by simp [S1])
  · obtain rfl : i = k := by omega
    rw [if_neg (by omega), if_pos hle.symm]
    exact hv.turn tY (by simp [S1])

theorem L1.exit_ {w : World} {cx lx : Array Value} {N : Nat → Nat} {tg tcap : Nat} {ss : List StD} {n : Nat} {l : LimD} {B P M k kf : Nat} {E F : List Value} {ev xv val : Value} {L : Nat → Value} {X Y Z : World} {g cap : Nat} (h : L1 w cx lx N tg tcap ss n l B P M k kf E F ev xv L X) (hb : Below X.heap.size X Y) (hv : StmR Y w.heap.size l val (ss.getD kf st0).exit) (hg : Y.grownBy Z xv.ownBlock)
    (ho : Z.ownsRow B 118 1 (.slice (some ⟨g, 0, none⟩) (F.length + 1) cap) (F.length + 1) (F ++ [val])) (hat : xv.ownBlock = some g ∨ g = Y.heap.size) :
    L1 w cx lx N tg tcap ss n l B P M k (kf + 1) E (F ++ [val]) ev (.slice (some ⟨g, 0, none⟩) (F.length + 1) cap) L (Z.setCell ⟨M, 2, none⟩ (.slice (some ⟨g, 0, none⟩) (F.length + 1) cap)) ∧ Turn S1 B X (Z.setCell ⟨M, 2, none⟩ (.slice (some ⟨g, 0, none⟩) (F.length + 1) cap)) := by
  obtain ⟨m1, t1⟩ := mac_exit h.mac hb hg ho hat
  have hY := h.below hb
  have bY := hY.mac.box
  have nm := own_far hY.mac.x (by decide) bY
  have bZ : Z.heap[M]? = _ := (hg.block M (lt_of_block bY) (fun e => nm e.symm)).trans bY
  have tY : Turn S1 B Y (Z.setCell ⟨M, 2, none⟩ (.slice (some ⟨g, 0, none⟩) (F.length + 1) cap)) := (Turn.grown hY.mac.x (.inl rfl) hg).trans (Turn.set bZ (.inr rfl) h.mac.hB _)
  have hB := h.hB
  refine ⟨⟨h.hB, h.mb.turn t1 (by omega) (by simp [S1]) (by simp [S1]) (by simp [S1]) (by simp [S1]), m1, rowIs_turn h.row t1 (by simp [S1]), h.le, by simp [h.lf], fun i hi => (h.ce i hi).turn t1 (by simp [S1]), fun i hi => ?_⟩, t1⟩
  have hle := h.lf
  rw [getD_snoc]
  by_cases e : i < kf
  · rw [if_pos (by omega)]; exact (h.cf i e).turn t1 (by simp [S1])
  · obtain rfl : i = kf := by omega
    rw [if_neg (by omega), if_pos hle.symm]
    exact hv.turn tY (by simp [S1])

end Go.Proofs.YtiimkhepplkocaaGreat
