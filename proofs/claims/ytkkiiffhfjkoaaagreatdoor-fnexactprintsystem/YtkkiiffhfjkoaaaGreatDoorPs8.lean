import Derived.Test.YtkkiiffhfjkoaaaGreatDoorPs6
import Derived.Lib.Builder
import Derived.Lib.AppendStr
import Derived.Lib.UnsafeStr
import Derived.Laws.Externs
namespace Go.Proofs.YtkkiiffhfjkoaaaGreatDoor
open Go.RowKit Go.Sort
set_option linter.unusedVariables false
attribute [local go_sem ↓] Go.wp_at_zero Go.wp_at_succ

/-- A pen: what it has written, whether it is in a line. -/
def PenP (w : World) (B P : Nat) (p : Value) (l : List UInt8) (i : Bool) : Prop :=
  B ≤ P ∧ ∃ v, w.heap[P]? = some (.cells #[p, v, .bool i] 69 (0, 0)) ∧ w.ownsRow B 5 1 v l.length (Lib.byteCells l) ∧ v.ownBlock ≠ some P
def PenAt (w : World) (B P : Nat) (l : List UInt8) (i : Bool) : Prop := PenP w B P (.pointer none) l i ∨ PenP w B P (.pointer (some ⟨P, 0, none⟩)) l i
/-- Of what stood, the pen and bytes alone have turned. -/
structure Wr (B P : Nat) (w w' : World) : Prop where
  bel : Below B w w'
  fr : ∀ b cs t f, w.heap[b]? = some (.cells cs t f) → b ≠ P → t ≠ 5 → w'.heap[b]? = some (.cells cs t f)
theorem Wr.refl (B P : Nat) (w : World) : Wr B P w w := ⟨Below.refl _ _, fun _ _ _ _ h _ _ => h⟩
theorem Wr.trans {B P : Nat} {a b c : World} (h : Wr B P a b) (k : Wr B P b c) : Wr B P a c := ⟨h.bel.trans k.bel, fun b cs t f h1 h2 h3 => k.fr b cs t f (h.fr b cs t f h1 h2 h3) h2 h3⟩
theorem Wr.of_below {B P : Nat} {w w' : World} (hB : B ≤ w.heap.size) (h : Below w.heap.size w w') : Wr B P w w' := ⟨h.mono hB, fun b cs t f h1 _ _ => block_below h1 h⟩
theorem Wr.set {B P o : Nat} {w : World} (hB : B ≤ P) (v : Value) : Wr B P w (w.setCell ⟨P, o, none⟩ v) := ⟨(Below.refl B w).setCell (p := ⟨P, o, none⟩) hB v, fun b cs t f h1 h2 _ => (Below.heap_setCell _ _ _ _ h2).trans h1⟩
theorem Wr.size {B P : Nat} {w w' : World} (h : Wr B P w w') : w.heap.size ≤ w'.heap.size := h.bel.size
theorem sizeBuilder : (Tryz.prog.info? 67).map (fun i => i.size) = some 2 := by kernel_rfl
theorem infoBuilder : ∃ j, Tryz.prog.info? 67 = some j ∧ j.size = 2 := Option.map_eq_some_iff.1 sizeBuilder
theorem liesBuilder : liesAt Tryz.prog Tryz.prog.depth 69 (3 / Tryz.prog.cellsOf 69) 0 67 1 = true := by kernel_rfl

set_option maxHeartbeats 1000000 in
set_option maxRecDepth 100000 in
theorem copyCheck_used (P : Nat) (w : World) (h0 : w.cell? ⟨P, 0, none⟩ = some (.pointer (some ⟨P, 0, none⟩))) :
    Calls Tryz.prog 100 #[.pointer (some ⟨P, 0, none⟩)] w fun e w' => e = .returned (.tuple #[]) ∧ w' = w := by
  obtain ⟨j, hj, _⟩ := infoBuilder
  go_enter Tryz.func100, Tryz.ntmps100
  go_wp2
  rw [Lib.run_neq_ptr_same w _ Tryz.underlying64 hj]
  go_wp2
  go_end0
  exact ⟨rfl, rfl⟩

set_option maxHeartbeats 1000000 in
set_option maxRecDepth 100000 in
theorem copyCheck_fresh (P : Nat) (w : World) (h0 : w.cell? ⟨P, 0, none⟩ = some (.pointer none)) (hsh : w.shape? P = some (69, 3)) (hfz : w.frozen? ⟨P, 0, none⟩ = false) :
    Calls Tryz.prog 100 #[.pointer (some ⟨P, 0, none⟩)] w fun e w' => e = .returned (.tuple #[]) ∧ w' = w.setCell ⟨P, 0, none⟩ (.pointer (some ⟨P, 0, none⟩)) := by
  obtain ⟨j, hj, hjs⟩ := infoBuilder
  go_enter Tryz.func100, Tryz.ntmps100
  go_wp2
  rw [Lib.run_to_unsafe w ⟨P, 0, none⟩ Tryz.underlying64 Tryz.underlying198 hj (by rw [hjs]; decide) hsh (Nat.zero_lt_succ 2)]
  simp only [Result.andThen]
  rw [Oper.upon_value]
  go_wp2
  rw [run_callFunc_extern Tryz.func131 (by kernel_rfl) (by kernel_rfl) (by kernel_rfl) (e := Extern.AbiNoEscape.same) (by kernel_rfl)]
  rw [Lib.run_noEscape]
  simp only [Result.andThen]
  rw [Oper.upon_value]
  go_wp2
  rw [Lib.run_from_unsafe w ⟨P, 0, none⟩ Tryz.underlying198 Tryz.underlying64 hj hsh liesBuilder]
  simp only [Result.andThen]
  rw [Oper.upon_value]
  go_wp2
  go_end0
  exact ⟨rfl, rfl⟩
theorem PenP.cell0 {w : World} {B P : Nat} {p : Value} {l : List UInt8} {i : Bool} (h : PenP w B P p l i) : w.cell? ⟨P, 0, none⟩ = some p := by
  obtain ⟨_, v, hb, _⟩ := h
  simp [World.cell?, hb]
theorem ownsRow_at {w w' : World} {B : Nat} {e : TypeId} {size : Nat} {v : Value} {n : Nat} {xs : List Value} (h : w.ownsRow B e size v n xs) (hb : ∀ b, b < w.heap.size → v.ownBlock = some b → w'.heap[b]? = w.heap[b]?) : w'.ownsRow B e size v n xs := by
  refine ⟨h.1, ?_⟩
  rcases h.2 with h0 | ⟨g, cap, cur, h1, h2, h3, h4⟩
  · exact .inl h0
  · exact .inr ⟨g, cap, cur, h1, h2, (hb g (lt_of_block h3) (by rw [h1]; rfl)).trans h3, h4⟩
theorem PenP.used {w : World} {B P : Nat} {p : Value} {l : List UInt8} {i : Bool} (h : PenP w B P p l i) (q : Value) : PenP (w.setCell ⟨P, 0, none⟩ q) B P q l i := by
  obtain ⟨hB, v, hb, ho, hn⟩ := h
  exact ⟨hB, v, by rw [heap_setCell_same w P 0 _ _ _ hb]; simp, ownsRow_at ho (fun b _ hb2 => Below.heap_setCell _ _ _ _ (fun e => hn (by rw [hb2, e]))), hn⟩
theorem copyCheck_pen (B P : Nat) (l : List UInt8) (i : Bool) (w : World) (h : PenAt w B P l i) :
    Calls Tryz.prog 100 #[.pointer (some ⟨P, 0, none⟩)] w fun e w' => e = .returned (.tuple #[]) ∧ PenP w' B P (.pointer (some ⟨P, 0, none⟩)) l i ∧ Wr B P w w' := by
  rcases h with h | h
  · obtain ⟨_, v, hb, _⟩ := id h
    refine (copyCheck_fresh P w h.cell0 (by simp [World.shape?, hb]) (by simp [World.frozen?, hb])).mono ?_
    rintro e w' ⟨rfl, rfl⟩
    exact ⟨rfl, h.used _, Wr.set h.1 _⟩
  · refine (copyCheck_used P w h.cell0).mono ?_
    rintro e w' ⟨rfl, rfl⟩
    exact ⟨rfl, h, Wr.refl _ _ _⟩
theorem PenP.put {B P : Nat} {p v v' : Value} {l : List UInt8} {i : Bool} {w : World} (hB : B ≤ P) (hb : w.heap[P]? = some (.cells #[p, v, .bool i] 69 (0, 0))) (hown : w.ownsRow B 5 1 v' l.length (Lib.byteCells l)) : PenP (w.setCell ⟨P, 1, none⟩ v') B P p l i := by
  have hn : v'.ownBlock ≠ some P := Lib.ownBlock_ne hown hb (by decide)
  exact ⟨hB, v', by rw [heap_setCell_same w P 1 _ _ _ hb]; simp, ownsRow_at hown (fun b _ hb2 => Below.heap_setCell _ _ _ _ (fun e => hn (by rw [hb2, e]))), hn⟩
theorem infoByte : (Tryz.prog.info? 5).map (fun i => (i.zero, i.size, i.bytes)) = some (some (.int .u8 0), 1, 1) := by kernel_rfl

set_option maxHeartbeats 2000000 in
set_option maxRecDepth 100000 in
theorem writeByte_pen (B P : Nat) (l : List UInt8) (i : Bool) (c : UInt8) (w : World) (h : PenAt w B P l i) (hlen : l.length + 1 ≤ 140737488355328) (hBw : B ≤ w.heap.size) :
    Calls Tryz.prog 73 #[.pointer (some ⟨P, 0, none⟩), .int .u8 c.toNat] w fun e w' => e = .returned .nilIface ∧ PenAt w' B P (l ++ [c]) i ∧ Wr B P w w' := by
  obtain ⟨i0, hi, hz0, hz1, hz2⟩ := info_parts infoByte
  go_enter Tryz.func73, Tryz.ntmps73
  go_wp2_with (go_at_call 100; refine (copyCheck_pen B P l i _ h).mono ?_)
  rintro e w1 ⟨rfl, h1, hw1⟩
  have hb1 := hw1.bel
  obtain ⟨hB, v, hbk, hown, hne⟩ := h1
  have c0 : w1.cell? ⟨P, 0, none⟩ = some (.pointer (some ⟨P, 0, none⟩)) := by rw [Lib.cell_of_heap hbk]; rfl
  have c1 : w1.cell? ⟨P, 1, none⟩ = some v := by rw [Lib.cell_of_heap hbk]; rfl
  go_wp2_with (at_builtin; refine wpList_append_own _ rfl _ _ 65 rfl B 5 i0 (.int .u8 0) 1 1 Tryz.underlying65 hi hz0 hz1 hz2 rfl (by decide) _ _ _ rfl (hown.alloc _) ⟨w1.heap.size, 0, none⟩ 1 1 [.int .u8 c.toNat] rfl rfl ?c1 ?c2 ?c3 ?c4 ?c5 ?_)
  case c1 =>
    intro j u hj
    match j, hj with
    | 0, hj => simp at hj; subst hj; simp [Addr.add]
  case c2 => intro u hu; simp at hu; subst hu; rfl
  case c3 => unfold maxLen; omega
  case c4 => omega
  case c5 => have := hb1.size; simp; omega
  intro v' w2 hown' hgrow _
  have hlt : P < w1.heap.size := lt_of_block hbk
  have hb2 : w2.heap[P]? = some (.cells #[.pointer (some ⟨P, 0, none⟩), v, .bool i] 69 (0, 0)) := by
    rw [hgrow.block P (by simp; omega) (fun e => hne e.symm), Lib.alloc_old w1 _ P hlt]
    exact hbk
  have d0 : w2.cell? ⟨P, 0, none⟩ = some (.pointer (some ⟨P, 0, none⟩)) := by rw [Lib.cell_of_heap hb2]; rfl
  have d1 : w2.cell? ⟨P, 1, none⟩ = some v := by rw [Lib.cell_of_heap hb2]; rfl
  have f1 : w2.frozen? ⟨P, 1, none⟩ = false := Lib.frozen_of_heap hb2 1
  obtain ⟨g, cap, rfl⟩ : ∃ g cap, v' = .slice (some ⟨g, 0, none⟩) (l.length + 1) cap := by
    rcases hown'.2 with ⟨_, h0⟩ | ⟨g, cap, cur, hv, _⟩
    · omega
    · exact ⟨g, cap, hv⟩
  go_wp2
  go_ret
  refine ⟨rfl, .inr ?_, ?_⟩
  · exact PenP.put hB hb2 (l := l ++ [c]) (by simpa [Lib.byteCells] using hown')
  · refine hw1.trans (Wr.trans ⟨((Below.refl B w1).alloc (by have := hb1.size; omega) _).grown hgrow (by have := hb1.size; simp; omega) (fun k hk => (hown.lt k hk).1), fun b cs t f g1 g2 g3 => ?_⟩ (Wr.set hB _))
    rw [hgrow.block b (by have := lt_of_block g1; simp; omega) (fun e => Lib.ownBlock_ne hown g1 g3 e.symm), Lib.alloc_old w1 _ b (lt_of_block g1)]
    exact g1

set_option maxHeartbeats 2000000 in
set_option maxRecDepth 100000 in
theorem writeString_pen (B P : Nat) (l x : List UInt8) (i : Bool) (w : World) (h : PenAt w B P l i) (hlen : l.length + x.length ≤ 140737488355328) (hBw : B ≤ w.heap.size) :
    Calls Tryz.prog 74 #[.pointer (some ⟨P, 0, none⟩), .string ⟨x.toArray⟩] w fun e w' => (∃ v, e = .returned v) ∧ PenAt w' B P (l ++ x) i ∧ Wr B P w w' := by
  obtain ⟨i0, hi, hz0, hz1, hz2⟩ := info_parts infoByte
  obtain ⟨s, hs⟩ : ∃ s : ByteArray, s = ⟨x.toArray⟩ := ⟨_, rfl⟩
  have hsz : s.size = x.length := by rw [hs]; rfl
  have hsc : Lib.strCells s = Lib.byteCells x := by rw [hs]; simp [Lib.strCells, Lib.byteCells]
  rw [← hs]
  clear hs
  go_enter Tryz.func74, Tryz.ntmps74
  go_wp2_with (go_at_call 100; refine (copyCheck_pen B P l i _ h).mono ?_)
  rintro e w1 ⟨rfl, h1, hw1⟩
  have hb1 := hw1.bel
  obtain ⟨hB, v, hbk, hown, hne⟩ := h1
  have c0 : w1.cell? ⟨P, 0, none⟩ = some (.pointer (some ⟨P, 0, none⟩)) := by rw [Lib.cell_of_heap hbk]; rfl
  have c1 : w1.cell? ⟨P, 1, none⟩ = some v := by rw [Lib.cell_of_heap hbk]; rfl
  go_wp2_with (at_builtin; refine Lib.wpList_append_own_string _ rfl _ _ 65 9 rfl B 5 i0 Tryz.underlying65 Tryz.underlying9 hi hz0 hz1 hz2 _ _ _ rfl hown s rfl ?c3 ?c4 ?c5 ?_)
  case c3 => unfold maxLen; omega
  case c4 => omega
  case c5 => have := hb1.size; omega
  intro v' w2 hown' hgrow _
  have hlt : P < w1.heap.size := lt_of_block hbk
  have hb2 : w2.heap[P]? = some (.cells #[.pointer (some ⟨P, 0, none⟩), v, .bool i] 69 (0, 0)) := by
    rw [hgrow.block P hlt (fun e => hne e.symm)]
    exact hbk
  have d0 : w2.cell? ⟨P, 0, none⟩ = some (.pointer (some ⟨P, 0, none⟩)) := by rw [Lib.cell_of_heap hb2]; rfl
  have d1 : w2.cell? ⟨P, 1, none⟩ = some v := by rw [Lib.cell_of_heap hb2]; rfl
  have f1 : w2.frozen? ⟨P, 1, none⟩ = false := Lib.frozen_of_heap hb2 1
  obtain ⟨ao, n', cap, rfl⟩ : ∃ ao n' cap, v' = .slice ao n' cap := by
    rcases hown'.2 with ⟨hv, _⟩ | ⟨g, cap, cur, hv, _⟩
    · exact ⟨_, _, _, hv⟩
    · exact ⟨_, _, _, hv⟩
  go_wp2
  go_ret2
  refine ⟨⟨_, rfl⟩, .inr ?_, ?_⟩
  · exact PenP.put hB hb2 (l := l ++ x) (by rw [List.length_append, Lib.byteCells_append]; exact hown')
  · refine hw1.trans (Wr.trans ⟨(Below.refl B w1).grown hgrow (by have := hb1.size; omega) (fun k hk => (hown.lt k hk).1), fun b cs t f g1 g2 g3 => ?_⟩ (Wr.set hB _))
    rw [hgrow.block b (lt_of_block g1) (fun e => Lib.ownBlock_ne hown g1 g3 e.symm)]
    exact g1

set_option maxHeartbeats 2000000 in
set_option maxRecDepth 100000 in
theorem string_pen (B P : Nat) (l : List UInt8) (i : Bool) (w : World) (h : PenAt w B P l i) (h0 : l ≠ []) :
    Calls Tryz.prog 20 #[.pointer (some ⟨P, 0, none⟩)] w fun e w' => e = .returned (.string ⟨l.toArray⟩) ∧ Below B w w' := by
  obtain ⟨p, hB, v, hbk, hown, hne⟩ : ∃ p, PenP w B P p l i := by
    rcases h with h | h
    · exact ⟨_, h⟩
    · exact ⟨_, h⟩
  have hl0 : l.length ≠ 0 := by simpa using h0
  obtain ⟨g, cap, cur, rfl, hbg, hg, hnc, hcm, hcs, htake⟩ : ∃ g cap cur, v = .slice (some ⟨g, 0, none⟩) l.length cap ∧ B ≤ g ∧ w.heap[g]? = some (.cells cur 5 (0, 0)) ∧ l.length ≤ cap ∧ cap ≤ maxLen ∧ cur.size = cap * 1 ∧ cur.toList.take (l.length * 1) = Lib.byteCells l := by
    rcases hown.2 with ⟨_, hz⟩ | ⟨g, cap, cur, hv, r⟩
    · exact absurd hz hl0
    · exact ⟨g, cap, cur, hv, r⟩
  have c1 : w.drew.cell? ⟨P, 1, none⟩ = some (.slice (some ⟨g, 0, none⟩) l.length cap) := by
    have : w.drew.heap[P]? = some (.cells #[p, .slice (some ⟨g, 0, none⟩) l.length cap, .bool i] 69 (0, 0)) := hbk
    rw [Lib.cell_of_heap this]; rfl
  have hSD : (Builtin.unsafeSliceData_ #[65] 98 #[.slice (some ⟨g, 0, none⟩) l.length cap]).run Tryz.prog w.drew = .ok (.pointer (some ⟨g, 0, none⟩)) w.drew :=
    Lib.run_unsafeSliceData_row _ _ _ _ _ _ (by omega)
  have hUS : (Builtin.unsafeString_ #[98, 3] 9 #[.pointer (some ⟨g, 0, none⟩), .int .i64 l.length]).run Tryz.prog w.drew = .ok (.string ⟨l.toArray⟩) (w.drew.freeze ⟨g, 0, none⟩ l.length) := by
    refine Lib.run_unsafeString_row w.drew 98 3 9 5 Tryz.underlying98 (by kernel_rfl) g cur.size (by have hg' : w.drew.heap[g]? = some (.cells cur 5 (0, 0)) := hg; simp [World.shape?, hg']) l h0 (by omega) (by unfold maxLen at hcm; omega) ?_
    intro j x hx
    have := hown.cells (g := g) rfl j (.int .u8 x.toNat) (by simp [Lib.byteCells, hx])
    exact this
  clear hown h hbk hne htake hg hcs hcm hnc h0
  go_enter Tryz.func20, Tryz.ntmps20
  go_wp2
  go_region
  all_goals (go_wp2; go_ret; exact ⟨rfl, Lib.below_freeze (Below.drew (Below.refl B w)) (p := ⟨g, 0, none⟩) hbg _⟩)

end Go.Proofs.YtkkiiffhfjkoaaaGreatDoor
