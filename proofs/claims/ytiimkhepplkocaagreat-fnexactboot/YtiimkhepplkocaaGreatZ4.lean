import Derived.Test.YtiimkhepplkocaaGreatZ3
import Derived.Test.YtiimkhepplkocaaGreatZ0
namespace Go.Proofs.YtiimkhepplkocaaGreat
open Go.RowKit Go.Sort
set_option linter.unusedVariables false
attribute [local go_sem ↓] Go.wp_at_zero Go.wp_at_succ

theorem infoMove : (Tryz.prog.info? 120).map (fun i => (i.zero, i.size, i.bytes)) = some (some (.agg #[.int .i64 0, .int .i64 0, .pointer none, .pointer none, .nilFunc, .slice none 0 0]), 6, 64) := by kernel_rfl
/-- The transitions of a state, among the first m. -/
def outs (ts : List TrD) (i m : Nat) : List Nat := (List.range m).filter fun q => decide ((ts.getD q tr0).src = i)
theorem outs_lt {ts : List TrD} {i m q : Nat} (h : q ∈ outs ts i m) : q < m := by
  unfold outs at h
  exact List.mem_range.1 (List.mem_filter.1 h).1
theorem outs_succ (ts : List TrD) (i m : Nat) : outs ts i (m + 1) = outs ts i m ++ (if (ts.getD m tr0).src = i then [m] else []) := by
  unfold outs
  rw [List.range_succ, List.filter_append]
  congr 1
  by_cases h : (ts.getD m tr0).src = i
  · rw [if_pos h, List.filter_cons_of_pos (by exact decide_eq_true h)]; rfl
  · rw [if_neg h, List.filter_cons_of_neg (by simpa only [decide_eq_true_eq] using h)]; rfl
theorem outs_len (ts : List TrD) (i m : Nat) : (outs ts i m).length ≤ m := by
  unfold outs
  exact Nat.le_trans (List.length_filter_le _ _) (by simp)
def tgtV (N : Nat → Nat) (t : Int) : Value := if t = -1 then .pointer none else .pointer (some ⟨N t.toNat, 0, none⟩)
/-- A move's six cells. -/
def mvC (N : Nat → Nat) (ts : List TrD) (lets act : Nat → Value) (q : Nat) : List Value :=
  [.int .i64 (q : Int), .int .i64 (ts.getD q tr0).sig, .pointer (some ⟨N (ts.getD q tr0).src.toNat, 0, none⟩), tgtV N (ts.getD q tr0).target, lets q, act q]
def mvs (N : Nat → Nat) (ts : List TrD) (lets act : Nat → Value) (l : List Nat) : List Value := l.flatMap (mvC N ts lets act)
theorem mvs_append (N : Nat → Nat) (ts : List TrD) (lets act : Nat → Value) (a b : List Nat) : mvs N ts lets act (a ++ b) = mvs N ts lets act a ++ mvs N ts lets act b := by simp [mvs]
theorem mvs_len (N : Nat → Nat) (ts : List TrD) (lets act : Nat → Value) (a : List Nat) : (mvs N ts lets act a).length = a.length * 6 := by
  induction a with
  | nil => rfl
  | cons x r ih => simp only [mvs, List.flatMap_cons, List.length_append, List.length_cons] at ih ⊢; rw [ih]; simp [mvC]; omega
theorem mvs_congr {N : Nat → Nat} {ts : List TrD} {lets act lets' act' : Nat → Value} {a : List Nat} (h : ∀ q, q ∈ a → lets q = lets' q ∧ act q = act' q) : mvs N ts lets act a = mvs N ts lets' act' a := by
  induction a with
  | nil => rfl
  | cons x r ih =>
    have h1 := h x (by simp)
    simp only [mvs, List.flatMap_cons] at ih ⊢
    rw [ih (fun q hq => h q (by simp [hq]))]
    simp [mvC, h1.1, h1.2]

/-- What the second loop turns. -/
def S2 (t : Nat) : Prop := t = 120 ∨ t = 114
theorem L1.turn {w : World} {cx lx : Array Value} {N : Nat → Nat} {tg tcap : Nat} {ss : List StD} {n : Nat} {l : LimD} {B P M k kf : Nat} {E F : List Value} {ev xv : Value} {L L' : Nat → Value} {X Y : World} (h : L1 w cx lx N tg tcap ss n l B P M k kf E F ev xv L X) (ht : Turn S2 B X Y) (hr : Y.rowIs B 114 n L') : L1 w cx lx N tg tcap ss n l B P M k kf E F ev xv L' Y := by
  have hB := h.hB
  exact ⟨h.hB, h.mb.turn ht (by omega) (by simp [S2]) (by simp [S2]) (by simp [S2]) (by simp [S2]), ⟨ht.box h.mac.box (by simp [S2]), h.mac.hB, ht.own h.mac.e (by simp [S2]), ht.own h.mac.x (by simp [S2]), h.mac.ne⟩, hr, h.le, h.lf, fun i hi => (h.ce i hi).turn ht (by simp [S2]), fun i hi => (h.cf i hi).turn ht (by simp [S2])⟩
/-- What the second loop has made. -/
structure L2 (w : World) (cx lx : Array Value) (N : Nat → Nat) (tg tcap : Nat) (ss : List StD) (ts : List TrD) (n : Nat) (l : LimD) (B P M j : Nat) (E F : List Value) (ev xv : Value) (L lets act : Nat → Value) (X : World) : Prop where
  l1 : L1 w cx lx N tg tcap ss n l B P M n n E F ev xv L X
  lv : ∀ i, i < n → X.ownsRow B 120 6 (L i) (outs ts i j).length (mvs N ts lets act (outs ts i j))
  dis : ∀ i i', i < n → i' < n → i ≠ i' → ∀ b, (L i).ownBlock = some b → (L i').ownBlock ≠ some b
  gd : ∀ q, q < j → GuardAt X w.heap.size l.v (ts.getD q tr0).guard (lets q) ∧ StmR X w.heap.size l (act q) (ts.getD q tr0).action
theorem L2.below {w : World} {cx lx : Array Value} {N : Nat → Nat} {tg tcap : Nat} {ss : List StD} {ts : List TrD} {n : Nat} {l : LimD} {B P M j : Nat} {E F : List Value} {ev xv : Value} {L lets act : Nat → Value} {X Y : World} (h : L2 w cx lx N tg tcap ss ts n l B P M j E F ev xv L lets act X) (hb : Below X.heap.size X Y) : L2 w cx lx N tg tcap ss ts n l B P M j E F ev xv L lets act Y :=
  ⟨h.l1.below hb, fun i hi => ownsRow_below (h.lv i hi) hb, h.dis, fun q hq => ⟨(h.gd q hq).1.below hb, (h.gd q hq).2.turn (S := fun _ => False) (B2 := 0) (Turn.of_below hb) (fun x => x)⟩⟩
theorem L2.start {w : World} {cx lx : Array Value} {N : Nat → Nat} {tg tcap : Nat} {ss : List StD} {ts : List TrD} {n : Nat} {l : LimD} {B P M : Nat} {E F : List Value} {ev xv : Value} {X : World} (h : L1 w cx lx N tg tcap ss n l B P M n n E F ev xv (fun _ => .slice none 0 0) X) : L2 w cx lx N tg tcap ss ts n l B P M 0 E F ev xv (fun _ => .slice none 0 0) (fun _ => undef) (fun _ => undef) X :=
  ⟨h, fun i hi => by simpa [outs, mvs] using World.ownsRow_nil X B 120 6, fun i i' _ _ _ b e => by simp [Value.ownBlock] at e, fun q hq => absurd hq (by omega)⟩
theorem L2.add {w : World} {cx lx : Array Value} {N : Nat → Nat} {tg tcap : Nat} {ss : List StD} {ts : List TrD} {n : Nat} {l : LimD} {B P M j : Nat} {E F : List Value} {ev xv gv av : Value} {L lets act : Nat → Value} {X Y Z : World} {g cap i : Nat} (h : L2 w cx lx N tg tcap ss ts n l B P M j E F ev xv L lets act X)
    (hb : Below X.heap.size X Y) (hi : i < n) (hsrc : (ts.getD j tr0).src = i) (hgu : GuardAt Y w.heap.size l.v (ts.getD j tr0).guard gv) (hac : StmR Y w.heap.size l av (ts.getD j tr0).action) (hg : Y.grownBy Z (L i).ownBlock)
    (ho : Z.ownsRow B 120 6 (.slice (some ⟨g, 0, none⟩) ((outs ts i j).length + 1) cap) ((outs ts i j).length + 1) (mvs N ts lets act (outs ts i j) ++ [.int .i64 (j : Int), .int .i64 (ts.getD j tr0).sig, .pointer (some ⟨N i, 0, none⟩), tgtV N (ts.getD j tr0).target, gv, av]))
    (hat : (L i).ownBlock = some g ∨ g = Y.heap.size) :
    L2 w cx lx N tg tcap ss ts n l B P M (j + 1) E F ev xv (fun k => if k = i then .slice (some ⟨g, 0, none⟩) ((outs ts i j).length + 1) cap else L k) (fun q => if q = j then gv else lets q) (fun q => if q = j then av else act q) (Z.setCell ⟨B, i, none⟩ (.slice (some ⟨g, 0, none⟩) ((outs ts i j).length + 1) cap)) := by
  have hY := h.below hb
  have oY := hY.lv i hi
  have rY := hY.l1.row
  obtain ⟨rc, rb, rs, rf⟩ := rY
  have nB := own_far oY (by decide) rb
  have bZ : Z.heap[B]? = Y.heap[B]? := hg.block B (lt_of_block rb) (fun e => nB e.symm)
  have rZ : Z.rowIs B 114 n L := hY.l1.row.of_block bZ
  have t1 : Turn S2 B Y Z := Turn.grown oY (.inl rfl) hg
  have t2 : Turn S2 B Z (Z.setCell ⟨B, i, none⟩ (.slice (some ⟨g, 0, none⟩) ((outs ts i j).length + 1) cap)) := Turn.set (bZ.trans rb) (.inr rfl) (Nat.le_refl _) _
  have tt := t1.trans t2
  have rr := rZ.set i (.slice (some ⟨g, 0, none⟩) ((outs ts i j).length + 1) cap)
  have same : ∀ i', mvs N ts (fun q => if q = j then gv else lets q) (fun q => if q = j then av else act q) (outs ts i' j) = mvs N ts lets act (outs ts i' j) := fun i' => mvs_congr fun q hq => by
    have := outs_lt hq
    rw [if_neg (by omega), if_neg (by omega)]
    exact ⟨rfl, rfl⟩
  refine ⟨hY.l1.turn tt (rr.congr fun k _ => rfl), fun i' hi' => ?_, fun a b ha hb' hab x hx => ?_, fun q hq => ?_⟩
  · by_cases e : i' = i
    · subst e
      rw [if_pos rfl, outs_succ, if_pos hsrc, mvs_append, same, List.length_append]
      have e2 : mvs N ts (fun q => if q = j then gv else lets q) (fun q => if q = j then av else act q) [j] = [.int .i64 (j : Int), .int .i64 (ts.getD j tr0).sig, .pointer (some ⟨N i', 0, none⟩), tgtV N (ts.getD j tr0).target, gv, av] := by
        simp only [mvs, List.flatMap_cons, List.flatMap_nil, List.append_nil, mvC, hsrc, if_true, Int.toNat_natCast]
      rw [e2]
      exact ownsRow_setCell_other ho (own_far ho (by decide) (bZ.trans rb)) _
    · rw [if_neg e, outs_succ, if_neg (by rw [hsrc]; omega), List.append_nil, same]
      have o2 : Z.ownsRow B 120 6 (L i') (outs ts i' j).length (mvs N ts lets act (outs ts i' j)) := ownsRow_eqb (hY.lv i' hi') (fun b hbl e1 => hg.block b hbl (fun e3 => h.dis i' i hi' hi e b e1 e3.symm))
      exact ownsRow_setCell_other o2 (own_far o2 (by decide) (bZ.trans rb)) _
  · have new : ∀ k, k < n → k ≠ i → (L k).ownBlock ≠ some g := fun k hk hki e => by
      rcases hat with h1 | h1
      · exact h.dis k i hk hi hki g e h1
      · have := ((hY.lv k hk).lt g e).2
        omega
    by_cases ea : a = i
    · subst ea
      have eb : b ≠ a := fun e => hab e.symm
      rw [if_pos rfl] at hx
      rw [if_neg eb]
      simp [Value.ownBlock] at hx
      subst hx
      exact new b hb' eb
    · rw [if_neg ea] at hx
      by_cases eb : b = i
      · subst eb
        rw [if_pos rfl]
        intro e
        simp [Value.ownBlock] at e
        subst e
        exact new a ha ea hx
      · rw [if_neg eb]
        exact h.dis a b ha hb' hab x hx
  · by_cases e : q = j
    · subst e
      rw [if_pos rfl, if_pos rfl]
      exact ⟨hgu.turn tt (by simp [S2]), hac.turn tt (by simp [S2])⟩
    · rw [if_neg e, if_neg e]
      have hh := hY.gd q (by omega)
      exact ⟨hh.1.turn tt (by simp [S2]), hh.2.turn tt (by simp [S2])⟩
abbrev set6 (X : World) (r : Nat) (a b c d e f : Value) : World := (((((X.setCell ⟨r, 0, none⟩ a).setCell ⟨r, 1, none⟩ b).setCell ⟨r, 2, none⟩ c).setCell ⟨r, 3, none⟩ d).setCell ⟨r, 4, none⟩ e).setCell ⟨r, 5, none⟩ f
theorem row6 {X : World} {r : Nat} {a b c d e f x0 x1 x2 x3 x4 x5 : Value} {t : TypeId} (h : X.heap[r]? = some (.cells #[x0, x1, x2, x3, x4, x5] t (0, 0))) : (set6 X r a b c d e f).heap[r]? = some (.cells #[a, b, c, d, e, f] t (0, 0)) := by
  have m1 := heap_setCell_same X r 0 _ _ a h
  have m2 := heap_setCell_same _ r 1 _ _ b m1
  have m3 := heap_setCell_same _ r 2 _ _ c m2
  have m4 := heap_setCell_same _ r 3 _ _ d m3
  have m5 := heap_setCell_same _ r 4 _ _ e m4
  have m6 := heap_setCell_same _ r 5 _ _ f m5
  rw [m6]; simp
theorem bel6 {w X : World} {C r : Nat} {a b c d e f : Value} (h : Below C w X) (hr : C ≤ r) : Below C w (set6 X r a b c d e f) := (((((h.setCell hr _).setCell hr _).setCell hr _).setCell hr _).setCell hr _).setCell hr _
theorem turn6 {S : Nat → Prop} {X : World} {r : Nat} {a b c d e f x0 x1 x2 x3 x4 x5 : Value} {t : TypeId} (h : X.heap[r]? = some (.cells #[x0, x1, x2, x3, x4, x5] t (0, 0))) (ht : S t) : Turn S 0 X (set6 X r a b c d e f) := by
  have m1 := heap_setCell_same X r 0 _ _ a h
  have m2 := heap_setCell_same _ r 1 _ _ b m1
  have m3 := heap_setCell_same _ r 2 _ _ c m2
  have m4 := heap_setCell_same _ r 3 _ _ d m3
  have m5 := heap_setCell_same _ r 4 _ _ e m4
  exact (((((Turn.set h ht (Nat.zero_le _) _).trans (Turn.set m1 ht (Nat.zero_le _) _)).trans (Turn.set m2 ht (Nat.zero_le _) _)).trans (Turn.set m3 ht (Nat.zero_le _) _)).trans (Turn.set m4 ht (Nat.zero_le _) _)).trans (Turn.set m5 ht (Nat.zero_le _) _)
theorem six_fr {w : World} {H : Nat} {cs : Array Value} {t : TypeId} (h : w.heap[H]? = some (.cells cs t (0, 0))) : ∀ o, w.frozen? ⟨H, o, none⟩ = false := fun o => frozen_of_row w H o cs t h
theorem tree_cell {X : World} {B tg n tcap : Nat} {N : Nat → Nat} (h : X.ownsRow B 110 1 (.slice (some ⟨tg, 0, none⟩) n tcap) n (ptrs N (List.range n))) {f : Nat} (hf : f < n) : X.cell? ⟨tg, f, none⟩ = some (.pointer (some ⟨N f, 0, none⟩)) := by
  rw [World.ownsRow.cellAt h f (by simpa using hf)]
  simp [ptrs, hf]
theorem StmR.below {X Y : World} {B : Nat} {l : LimD} {v : Value} {xs : List StmD} (h : StmR X B l v xs) (hb : Below X.heap.size X Y) : StmR Y B l v xs := h.turn (S := fun _ => False) (B2 := 0) (Turn.of_below hb) (fun x => x)
theorem undrewH {w w' : World} (h : Below w.drew.heap.size w.drew w') : Below w.heap.size w w' := ⟨h.os, h.tape, h.output, h.size, h.block⟩
/-- A move that has been built beside what was there. -/
structure Bt (w : World) (X : World) (H b : Nat) (tx mx : Array Value) (l : LimD) (gc : List (Int × Int)) (ac : List StmD) (gv av : Value) (Y : World) : Prop where
  bel : Below X.heap.size X Y
  q : Y.heap[H]? = some (.cells tx 60 (0, 0))
  m : Y.heap[b]? = some (.cells mx 120 (0, 0))
  bl : X.heap.size ≤ b
  g : GuardAt Y w.heap.size l.v gc gv
  a : StmR Y w.heap.size l av ac
theorem bt_put {w X Y : World} {H r : Nat} {tx : Array Value} {a b c d d' gv av : Value} {l : LimD} {gc : List (Int × Int)} {ac : List StmD} (h : Bt w X H r tx #[a, b, c, d, gv, av] l gc ac gv av Y) : Bt w X H r tx #[a, b, c, d', gv, av] l gc ac gv av (Y.setCell ⟨r, 3, none⟩ d') := by
  have tt : Turn S2 0 Y (Y.setCell ⟨r, 3, none⟩ d') := Turn.set h.m (.inl rfl) (Nat.zero_le _) _
  exact ⟨h.bel.setCell h.bl _, tt.box h.q (by simp [S2]), by rw [heap_setCell_same Y r 3 _ _ _ h.m]; simp, h.bl, h.g.turn tt (by simp [S2]), h.a.turn tt (by simp [S2])⟩
theorem bt_new {w X Y : World} {H : Nat} {tx : Array Value} {a b c d gv av : Value} {l : LimD} {gc : List (Int × Int)} {ac : List StmD} (hb : Below X.heap.size X Y) (hq : Y.heap[H]? = some (.cells tx 60 (0, 0))) (hg : GuardAt Y w.heap.size l.v gc gv) (ha : StmR Y w.heap.size l av ac) : Bt w X H Y.heap.size tx #[a, b, c, d, gv, av] l gc ac gv av (Y.alloc (.cells #[a, b, c, d, gv, av] 120)) :=
  ⟨hb.trans ((below1 _ _).mono hb.size), block_below hq (below1 _ _), heap_alloc_new _ _, hb.size, hg.below (below1 _ _), ha.below (below1 _ _)⟩
theorem bt_set {w X Y : World} {H r : Nat} {tx : Array Value} {a b c d gv av x0 x1 x2 x3 x4 x5 : Value} {l : LimD} {gc : List (Int × Int)} {ac : List StmD} (hb : Below X.heap.size X Y) (hr : X.heap.size ≤ r) (hq : Y.heap[H]? = some (.cells tx 60 (0, 0))) (hx : Y.heap[r]? = some (.cells #[x0, x1, x2, x3, x4, x5] 120 (0, 0))) (hg : GuardAt Y w.heap.size l.v gc gv) (ha : StmR Y w.heap.size l av ac) : Bt w X H r tx #[a, b, c, d, gv, av] l gc ac gv av (set6 Y r a b c d gv av) := by
  have tt : Turn S2 0 Y (set6 Y r a b c d gv av) := turn6 hx (.inl rfl)
  exact ⟨bel6 hb hr, tt.box hq (by simp [S2]), row6 hx, hr, hg.turn tt (by simp [S2]), ha.turn tt (by simp [S2])⟩
end Go.Proofs.YtiimkhepplkocaaGreat
