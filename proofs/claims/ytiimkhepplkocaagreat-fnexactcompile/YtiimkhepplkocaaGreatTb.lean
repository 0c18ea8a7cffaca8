import Derived.Test.YtiimkhepplkocaaGreatTa
import Derived.Test.YtiimkhepplkocaaGreatZd
namespace Go.Proofs.YtiimkhepplkocaaGreat
open Go.RowKit Go.Sort
set_option linter.unusedVariables false
attribute [local go_sem ↓] Go.wp_at_zero Go.wp_at_succ

/-- What Compile answers. -/
def leavesOf (ss : List StD) (n : Nat) : List Nat := (List.range n).filter (fun i => decide (ini ss i < 0))
def rowX (ss : List StD) (ts : List TrD) (leaf q : Nat) : RwD := ⟨(q : Int), exX ss leaf (ts.getD q tr0), enX ss (ts.getD q tr0), (nxX ss leaf (ts.getD q tr0) : Nat)⟩
def rowsX (ss : List StD) (ts : List TrD) (leaf : Nat) (sg : Int) : List RwD := (cands ts (up ss leaf) sg).map (rowX ss ts leaf)
def cellsX (ss : List StD) (ts : List TrD) (sg : Nat) (L : List Nat) : List (List RwD) := L.flatMap (fun lf => (List.range sg).map (fun (s : Nat) => rowsX ss ts lf (s : Int)))
def stB (C : List (List RwD)) : List Nat := (List.range C.length).map (fun i => ((C.take i).flatten).length)
def stOf (C : List (List RwD)) : List Nat := stB C ++ [C.flatten.length]
theorem stB_snoc (C : List (List RwD)) (x : List RwD) : stB (C ++ [x]) = stB C ++ [C.flatten.length] := by
  unfold stB
  rw [List.length_append, List.length_singleton, List.range_succ, List.map_append]
  congr 1
  · apply List.map_congr_left
    intro i hi
    rw [List.take_append_of_le_length (by have := List.mem_range.1 hi; omega)]
  · simp
theorem stOf_snoc (C : List (List RwD)) (x : List RwD) : stOf (C ++ [x]) = stOf C ++ [(C ++ [x]).flatten.length] := by
  unfold stOf
  rw [stB_snoc]
theorem leaves_succ (ss : List StD) (n : Nat) : leavesOf ss (n + 1) = leavesOf ss n ++ (if ini ss n < 0 then [n] else []) := by
  unfold leavesOf
  rw [List.range_succ, List.filter_append]
  congr 1
  by_cases h : ini ss n < 0 <;> simp [h]
theorem cellsX_snoc (ss : List StD) (ts : List TrD) (sg : Nat) (L : List Nat) (x : Nat) : cellsX ss ts sg (L ++ [x]) = cellsX ss ts sg L ++ (List.range sg).map (fun (s : Nat) => rowsX ss ts x (s : Int)) := by simp [cellsX]

def xvOf (R : List (List Value)) (i : Nat) : Value := (R.getD i []).getD 1 undef
def nvOf (R : List (List Value)) (i : Nat) : Value := (R.getD i []).getD 2 undef
/-- A table in the making. -/
structure TbI (w : World) (HB : Nat) (d : TbD) (lv sv rv bx bn : Value) (R : List (List Value)) (X : World) : Prop where
  bel : Below w.heap.size w X
  box : X.heap[HB]? = some (.cells #[.int .i64 d.sg, lv, sv, rv, .int .i64 d.bt.tr, bx, bn, .int .i64 d.bt.nx] 46 (0, 0))
  hB : w.heap.size ≤ HB
  l : X.ownsRow w.heap.size 3 1 lv d.lv.length (ints d.lv)
  s : X.ownsRow w.heap.size 3 1 sv d.st.length (ints d.st)
  x : X.ownsRow w.heap.size 3 1 bx d.bt.ex.length (ints d.bt.ex)
  n : X.ownsRow w.heap.size 3 1 bn d.bt.en.length (ints d.bt.en)
  ri : RowsIn X w.heap.size d.rw R
  ro : X.ownsRow w.heap.size 44 4 rv d.rw.length R.flatten
  ap : ApT lv sv rv bx bn (xvOf R) (nvOf R) d.rw.length
theorem TbI.below {w : World} {HB : Nat} {d : TbD} {lv sv rv bx bn : Value} {R : List (List Value)} {X Y : World} (h : TbI w HB d lv sv rv bx bn R X) (hb : Below X.heap.size X Y) : TbI w HB d lv sv rv bx bn R Y :=
  ⟨h.bel.trans (hb.mono h.bel.size), block_below h.box hb, h.hB, ownsRow_below h.l hb, ownsRow_below h.s hb, ownsRow_below h.x hb, ownsRow_below h.n hb, h.ri.below hb, ownsRow_below h.ro hb, h.ap⟩
theorem RowIn.vals {X : World} {B : Nat} {d : RwD} {c : List Value} (h : RowIn X B d c) : X.ownsRow B 3 1 (c.getD 1 undef) d.ex.length (ints d.ex) ∧ X.ownsRow B 3 1 (c.getD 2 undef) d.en.length (ints d.en) := by
  obtain ⟨xv, nv, rfl, h1, h2⟩ := h
  exact ⟨h1, h2⟩
theorem RowsIn.vals {X : World} {B : Nat} {ds : List RwD} {R : List (List Value)} (h : RowsIn X B ds R) {i : Nat} (hi : i < ds.length) : X.ownsRow B 3 1 (xvOf R i) (ds.getD i rw0).ex.length (ints (ds.getD i rw0).ex) ∧ X.ownsRow B 3 1 (nvOf R i) (ds.getD i rw0).en.length (ints (ds.getD i rw0).en) := (h.2 i hi).vals
theorem RowsIn.keep {P : Nat → Prop} {X Y : World} {B : Nat} {ds : List RwD} {R : List (List Value)} (h : RowsIn X B ds R) (hP : OnlyP P X Y) (hn : ∀ b, Inner (xvOf R) (nvOf R) ds.length b → ¬ P b) : RowsIn Y B ds R := ⟨h.1, fun i hi => by
  obtain ⟨xv, nv, e, h1, h2⟩ := h.2 i hi
  have e1 : xvOf R i = xv := by unfold xvOf; rw [e]; rfl
  have e2 : nvOf R i = nv := by unfold nvOf; rw [e]; rfl
  exact ⟨xv, nv, e, hP.own h1 (fun b hb => hn b ⟨i, hi, .inl (by rw [e1]; exact hb)⟩), hP.own h2 (fun b hb => hn b ⟨i, hi, .inr (by rw [e2]; exact hb)⟩)⟩⟩
theorem grown_P {v : Value} {X Y : World} (hg : X.grownBy Y v.ownBlock) : OnlyP (fun b => v.ownBlock = some b) X Y := ⟨hg.os, hg.tape, hg.output, hg.size, fun q hq hn => hg.block q hq (fun e => hn e.symm)⟩
/-- What isn't of int and Row is kept by a growing list; the box is written. -/
theorem int_tag {X : World} {B : Nat} {v : Value} {n : Nat} {xs : List Value} (h : X.ownsRow B 3 1 v n xs) {H : Nat} {cs : Array Value} (hb : X.heap[H]? = some (.cells cs 46 (0, 0))) : ∀ b, v.ownBlock = some b → b ≠ H := fun b e e2 => own_tag h hb (by decide) (by rw [e, e2])
theorem rows_tag {X : World} {B : Nat} {v : Value} {n : Nat} {xs : List Value} (h : X.ownsRow B 44 4 v n xs) {H : Nat} {cs : Array Value} (hb : X.heap[H]? = some (.cells cs 46 (0, 0))) : ∀ b, v.ownBlock = some b → b ≠ H := fun b e e2 => own_tag h hb (by decide) (by rw [e, e2])
theorem ApT.updL {lv sv rv bx bn v' : Value} {xv nv : Nat → Value} {n N : Nat} (h : ApT lv sv rv bx bn xv nv n) (hf : ∀ b, v'.ownBlock = some b → lv.ownBlock = some b ∨ N ≤ b) (hlt : ∀ b, (sv.ownBlock = some b ∨ bx.ownBlock = some b ∨ bn.ownBlock = some b) ∨ (rv.ownBlock = some b ∨ Inner xv nv n b) → b < N) : ApT v' sv rv bx bn xv nv n := by
  have off : ∀ {u : Value}, Off lv u → (∀ b, u.ownBlock = some b → b < N) → Off v' u := fun ho hl b e e2 => by
    rcases hf b e with h1 | h1
    · exact ho b h1 e2
    · have := hl b e2; omega
  refine ⟨off h.ls (fun b e => hlt b (.inl (.inl e))), off h.lx (fun b e => hlt b (.inl (.inr (.inl e)))), off h.ln (fun b e => hlt b (.inl (.inr (.inr e)))), h.sx, h.sn, h.xn, fun b e hi => ?_, h.row⟩
  rcases e with e | e
  · rcases hf b e with h1 | h1
    · exact h.inn b (.inl h1) hi
    · have := hlt b (.inr hi); omega
  · exact h.inn b (.inr e) hi
theorem ApT.updS {lv sv rv bx bn v' : Value} {xv nv : Nat → Value} {n N : Nat} (h : ApT lv sv rv bx bn xv nv n) (hf : ∀ b, v'.ownBlock = some b → sv.ownBlock = some b ∨ N ≤ b) (hlt : ∀ b, (lv.ownBlock = some b ∨ bx.ownBlock = some b ∨ bn.ownBlock = some b) ∨ (rv.ownBlock = some b ∨ Inner xv nv n b) → b < N) : ApT lv v' rv bx bn xv nv n := by
  have off : ∀ {u : Value}, Off sv u → (∀ b, u.ownBlock = some b → b < N) → Off v' u := fun ho hl b e e2 => by
    rcases hf b e with h1 | h1
    · exact ho b h1 e2
    · have := hl b e2; omega
  refine ⟨fun b e e2 => ?_, h.lx, h.ln, off h.sx (fun b e => hlt b (.inl (.inr (.inl e)))), off h.sn (fun b e => hlt b (.inl (.inr (.inr e)))), h.xn, fun b e hi => ?_, h.row⟩
  · rcases hf b e2 with h1 | h1
    · exact h.ls b e h1
    · have := hlt b (.inl (.inl e)); omega
  · rcases e with e | e | e
    · exact h.inn b (.inl e) hi
    · rcases hf b e with h1 | h1
      · exact h.inn b (.inr (.inl h1)) hi
      · have := hlt b (.inr hi); omega
    · exact h.inn b (.inr (.inr e)) hi
theorem xvOf_snoc (R : List (List Value)) (c : List Value) (i : Nat) : xvOf (R ++ [c]) i = if i < R.length then xvOf R i else if i = R.length then c.getD 1 undef else undef := by
  unfold xvOf
  rw [getD_snoc]
  split
  · rfl
  · split
    · rfl
    · rfl
theorem nvOf_snoc (R : List (List Value)) (c : List Value) (i : Nat) : nvOf (R ++ [c]) i = if i < R.length then nvOf R i else if i = R.length then c.getD 2 undef else undef := by
  unfold nvOf
  rw [getD_snoc]
  split
  · rfl
  · split
    · rfl
    · rfl
theorem ApT.updR {lv sv rv bx bn r' : Value} {R : List (List Value)} {c : List Value} {n N : Nat} (h : ApT lv sv rv bx bn (xvOf R) (nvOf R) n) (hR : R.length = n) (hrow : ∀ b, Outer lv sv bx bn b → r'.ownBlock ≠ some b) (hx : ∀ b, ((c.getD 1 undef).ownBlock = some b ∨ (c.getD 2 undef).ownBlock = some b) → N ≤ b) (hne : Off (c.getD 1 undef) (c.getD 2 undef)) (hlt : ∀ b, Outer lv sv bx bn b ∨ Inner (xvOf R) (nvOf R) n b → b < N) : ApT lv sv r' bx bn (xvOf (R ++ [c])) (nvOf (R ++ [c])) (n + 1) := by
  have xo : ∀ i, i < n → xvOf (R ++ [c]) i = xvOf R i := fun i hi => by rw [xvOf_snoc, if_pos (by omega)]
  have no : ∀ i, i < n → nvOf (R ++ [c]) i = nvOf R i := fun i hi => by rw [nvOf_snoc, if_pos (by omega)]
  have xn : xvOf (R ++ [c]) n = c.getD 1 undef := by rw [xvOf_snoc, if_neg (by omega), if_pos hR.symm]
  have nn : nvOf (R ++ [c]) n = c.getD 2 undef := by rw [nvOf_snoc, if_neg (by omega), if_pos hR.symm]
  refine ⟨h.ls, h.lx, h.ln, h.sx, h.sn, h.xn, fun b e hi => ?_, fun i j hi hj => ?_⟩
  · rcases hi with hi | ⟨i, hi, e2⟩
    · exact hrow b e hi
    · by_cases hin : i < n
      · rw [xo i hin, no i hin] at e2
        exact h.inn b e (.inr ⟨i, hin, e2⟩)
      · obtain rfl : i = n := by omega
        rw [xn, nn] at e2
        have := hx b e2
        have := hlt b (.inl e)
        omega
  · by_cases hi' : i < n
    · by_cases hj' : j < n
      · rw [xo i hi', no j hj', xo j hj', no i hi']
        exact h.row i j hi' hj'
      · obtain rfl : j = n := by omega
        rw [xo i hi', nn, xn, no i hi']
        have old : ∀ b, ((xvOf R i).ownBlock = some b ∨ (nvOf R i).ownBlock = some b) → b < N := fun b e => hlt b (.inr ⟨i, hi', e⟩)
        exact ⟨fun b e e2 => by have := old b (.inl e); have := hx b (.inr e2); omega, fun _ => ⟨fun b e e2 => by have := old b (.inl e); have := hx b (.inl e2); omega, fun b e e2 => by have := old b (.inr e); have := hx b (.inr e2); omega⟩⟩
    · obtain rfl : i = n := by omega
      by_cases hj' : j < i
      · rw [xn, nn, no j hj', xo j hj']
        have old : ∀ b, ((xvOf R j).ownBlock = some b ∨ (nvOf R j).ownBlock = some b) → b < N := fun b e => hlt b (.inr ⟨j, hj', e⟩)
        exact ⟨fun b e e2 => by have := old b (.inr e2); have := hx b (.inl e); omega, fun _ => ⟨fun b e e2 => by have := old b (.inl e2); have := hx b (.inl e); omega, fun b e e2 => by have := old b (.inr e2); have := hx b (.inr e); omega⟩⟩
      · obtain rfl : j = i := by omega
        rw [xn, nn]
        exact ⟨hne, fun h => absurd rfl h⟩
end Go.Proofs.YtiimkhepplkocaaGreat
namespace Go.Proofs.YtiimkhepplkocaaGreat
open Go.RowKit Go.Sort
set_option linter.unusedVariables false
attribute [local go_sem ↓] Go.wp_at_zero Go.wp_at_succ

theorem OnlyP.toBelow {P : Nat → Prop} {B : Nat} {X Y : World} (h : OnlyP P X Y) (hP : ∀ b, P b → B ≤ b) (hB : B ≤ X.heap.size) : Below B X Y := ⟨h.os, h.tape, h.output, h.size, fun k hk => h.block k (by omega) (fun e => by have := hP k e; omega)⟩
section
variable {w : World} {HB : Nat} {d : TbD} {lv sv rv bx bn : Value} {R : List (List Value)} {X Z : World} {v' : Value} {x : Nat}
theorem TbI.inner (h : TbI w HB d lv sv rv bx bn R X) : ∀ b, Inner (xvOf R) (nvOf R) d.rw.length b → w.heap.size ≤ b ∧ b < X.heap.size := by
  rintro b ⟨i, hi, e | e⟩
  · exact (h.ri.vals hi).1.lt b e
  · exact (h.ri.vals hi).2.lt b e
theorem TbI.innerBox (h : TbI w HB d lv sv rv bx bn R X) : ∀ b, Inner (xvOf R) (nvOf R) d.rw.length b → b ≠ HB := by
  rintro b ⟨i, hi, e | e⟩
  · exact int_tag (h.ri.vals hi).1 h.box b e
  · exact int_tag (h.ri.vals hi).2 h.box b e
theorem TbI.addL (h : TbI w HB d lv sv rv bx bn R X) (hg : X.grownBy Z lv.ownBlock) (ho : Z.ownsRow w.heap.size 3 1 v' (d.lv.length + 1) (ints (d.lv ++ [x]))) (hat : ∀ b, v'.ownBlock = some b → lv.ownBlock = some b ∨ X.heap.size ≤ b) : TbI w HB ⟨d.sg, d.lv ++ [x], d.st, d.rw, d.bt⟩ v' sv rv bx bn R (Z.setCell ⟨HB, 1, none⟩ v') := by
  have gP := grown_P hg
  have boxZ := (gP.block HB (lt_of_block h.box) (fun e => int_tag h.l h.box HB e rfl)).trans h.box
  have sP : OnlyP (fun b => b = HB) Z (Z.setCell ⟨HB, 1, none⟩ v') := OnlyP.set _ rfl
  have keepI : ∀ {u : Value} {n : Nat} {xs : List Value}, X.ownsRow w.heap.size 3 1 u n xs → (∀ b, u.ownBlock = some b → lv.ownBlock ≠ some b) → (Z.setCell ⟨HB, 1, none⟩ v').ownsRow w.heap.size 3 1 u n xs := fun hu hoff =>
    sP.own (gP.own hu (fun b e e2 => hoff b e e2)) (fun b e => int_tag hu h.box b e)
  have lt := h.inner
  refine ⟨(h.bel.trans (gP.toBelow (fun b e => (h.l.lt b e).1) h.bel.size)).setCell h.hB _, by rw [heap_setCell_same Z HB 1 _ _ _ boxZ]; rfl, h.hB, sP.own (by simpa using ho) (fun b e => int_tag ho boxZ b e), keepI h.s (fun b e e2 => h.ap.ls b e2 e), keepI h.x (fun b e e2 => h.ap.lx b e2 e), keepI h.n (fun b e e2 => h.ap.ln b e2 e), (h.ri.keep gP (fun b hi e => h.ap.inn b (.inl e) (.inr hi))).keep sP (fun b hi => h.innerBox b hi), sP.own (gP.own h.ro (fun b e e2 => h.ap.inn b (.inl e2) (.inl e))) (fun b e => rows_tag h.ro h.box b e), h.ap.updL (N := X.heap.size) hat (fun b e => by
    rcases e with (e | e | e) | (e | e)
    · exact (h.s.lt b e).2
    · exact (h.x.lt b e).2
    · exact (h.n.lt b e).2
    · exact (h.ro.lt b e).2
    · exact (lt b e).2)⟩
theorem TbI.addS (h : TbI w HB d lv sv rv bx bn R X) (hg : X.grownBy Z sv.ownBlock) (ho : Z.ownsRow w.heap.size 3 1 v' (d.st.length + 1) (ints (d.st ++ [x]))) (hat : ∀ b, v'.ownBlock = some b → sv.ownBlock = some b ∨ X.heap.size ≤ b) : TbI w HB ⟨d.sg, d.lv, d.st ++ [x], d.rw, d.bt⟩ lv v' rv bx bn R (Z.setCell ⟨HB, 2, none⟩ v') := by
  have gP := grown_P hg
  have boxZ := (gP.block HB (lt_of_block h.box) (fun e => int_tag h.s h.box HB e rfl)).trans h.box
  have sP : OnlyP (fun b => b = HB) Z (Z.setCell ⟨HB, 2, none⟩ v') := OnlyP.set _ rfl
  have keepI : ∀ {u : Value} {n : Nat} {xs : List Value}, X.ownsRow w.heap.size 3 1 u n xs → (∀ b, u.ownBlock = some b → sv.ownBlock ≠ some b) → (Z.setCell ⟨HB, 2, none⟩ v').ownsRow w.heap.size 3 1 u n xs := fun hu hoff =>
    sP.own (gP.own hu (fun b e e2 => hoff b e e2)) (fun b e => int_tag hu h.box b e)
  have lt := h.inner
  refine ⟨(h.bel.trans (gP.toBelow (fun b e => (h.s.lt b e).1) h.bel.size)).setCell h.hB _, by rw [heap_setCell_same Z HB 2 _ _ _ boxZ]; rfl, h.hB, keepI h.l (fun b e e2 => h.ap.ls b e e2), sP.own (by simpa using ho) (fun b e => int_tag ho boxZ b e), keepI h.x (fun b e e2 => h.ap.sx b e2 e), keepI h.n (fun b e e2 => h.ap.sn b e2 e), (h.ri.keep gP (fun b hi e => h.ap.inn b (.inr (.inl e)) (.inr hi))).keep sP (fun b hi => h.innerBox b hi), sP.own (gP.own h.ro (fun b e e2 => h.ap.inn b (.inr (.inl e2)) (.inl e))) (fun b e => rows_tag h.ro h.box b e), h.ap.updS (N := X.heap.size) hat (fun b e => by
    rcases e with (e | e | e) | (e | e)
    · exact (h.l.lt b e).2
    · exact (h.x.lt b e).2
    · exact (h.n.lt b e).2
    · exact (h.ro.lt b e).2
    · exact (lt b e).2)⟩
theorem TbI.addR {r' : Value} {t : RwD} {c : List Value} {N : Nat} (h : TbI w HB d lv sv rv bx bn R X) (hN : ∀ b, Outer lv sv bx bn b ∨ Inner (xvOf R) (nvOf R) d.rw.length b → b < N) (hc : RowIn X w.heap.size t c) (hx : ∀ b, ((c.getD 1 undef).ownBlock = some b ∨ (c.getD 2 undef).ownBlock = some b) → N ≤ b) (hne : Off (c.getD 1 undef) (c.getD 2 undef)) (hg : X.grownBy Z rv.ownBlock) (ho : Z.ownsRow w.heap.size 44 4 r' (d.rw.length + 1) (R.flatten ++ c)) : TbI w HB ⟨d.sg, d.lv, d.st, d.rw ++ [t], d.bt⟩ lv sv r' bx bn (R ++ [c]) (Z.setCell ⟨HB, 3, none⟩ r') := by
  have gP := grown_P hg
  have boxZ := (gP.block HB (lt_of_block h.box) (fun e => rows_tag h.ro h.box HB e rfl)).trans h.box
  have sP : OnlyP (fun b => b = HB) Z (Z.setCell ⟨HB, 3, none⟩ r') := OnlyP.set _ rfl
  have keepI : ∀ {u : Value} {n : Nat} {xs : List Value}, X.ownsRow w.heap.size 3 1 u n xs → (Z.setCell ⟨HB, 3, none⟩ r').ownsRow w.heap.size 3 1 u n xs := fun hu =>
    sP.own (gP.own hu (fun b e e2 => own_type hu h.ro b e e2)) (fun b e => int_tag hu h.box b e)
  have ri' : RowsIn (Z.setCell ⟨HB, 3, none⟩ r') w.heap.size d.rw R := (h.ri.keep gP (fun b hi e => by
    obtain ⟨i, hi, e2 | e2⟩ := hi
    · exact own_type (h.ri.vals hi).1 h.ro b e2 e
    · exact own_type (h.ri.vals hi).2 h.ro b e2 e)).keep sP (fun b hi => h.innerBox b hi)
  have hc' : RowIn (Z.setCell ⟨HB, 3, none⟩ r') w.heap.size t c := by
    obtain ⟨xv, nv, e, o1, o2⟩ := hc
    exact ⟨xv, nv, e, keepI o1, keepI o2⟩
  have hrow : ∀ b, Outer lv sv bx bn b → r'.ownBlock ≠ some b := fun b e e2 => by
    have own : ∀ {u : Value} {n : Nat} {xs : List Value}, X.ownsRow w.heap.size 3 1 u n xs → u.ownBlock = some b → False := fun hu e3 => by
      have hz := gP.own hu (fun b e e2 => own_type hu h.ro b e e2)
      exact own_type hz ho b e3 e2
    rcases e with e | e | e | e
    · exact own h.l e
    · exact own h.s e
    · exact own h.x e
    · exact own h.n e
  refine ⟨(h.bel.trans (gP.toBelow (fun b e => (h.ro.lt b e).1) h.bel.size)).setCell h.hB _, by rw [heap_setCell_same Z HB 3 _ _ _ boxZ]; rfl, h.hB, keepI h.l, keepI h.s, keepI h.x, keepI h.n, ⟨by simp [h.ri.1], fun i hi => ?_⟩, sP.own (by simpa using ho) (fun b e => rows_tag ho boxZ b e), by simpa using h.ap.updR h.ri.1 hrow hx hne hN⟩
  · rw [getD_snoc, getD_snoc, h.ri.1]
    by_cases hl : i < d.rw.length
    · rw [if_pos hl, if_pos hl]; exact ri'.2 i hl
    · obtain rfl : i = d.rw.length := by simp at hi; omega
      rw [if_neg hl, if_neg hl, if_pos rfl, if_pos rfl]; exact hc'
end
end Go.Proofs.YtiimkhepplkocaaGreat
namespace Go.Proofs.YtiimkhepplkocaaGreat
open Go.RowKit Go.Sort
set_option linter.unusedVariables false
attribute [local go_sem ↓] Go.wp_at_zero Go.wp_at_succ

theorem rowsX_len {ss : List StD} {ts : List TrD} {l : LimD} (hC : Chk ss ts l) {leaf : Nat} (hl : leaf < ss.length) (sg : Int) : (rowsX ss ts leaf sg).length ≤ 100000 := by
  unfold rowsX
  rw [List.length_map]
  have h1 := cands_len ts sg (up ss leaf)
  have h2 := up_len hC.good.tree leaf hl
  have h3 := hC.good.n2
  have h4 := hC.good.tn
  have h5 := Nat.mul_le_mul (show (up ss leaf).length ≤ 200 by omega) h4
  omega
theorem flat_len {C : List (List RwD)} {m : Nat} (h : ∀ c, c ∈ C → c.length ≤ m) : C.flatten.length ≤ C.length * m := by
  induction C with
  | nil => simp
  | cons x r ih =>
    have h1 := h x (by simp)
    have h2 := ih (fun c hc => h c (by simp [hc]))
    rw [List.flatten_cons, List.length_append, List.length_cons, Nat.succ_mul]
    omega
theorem cellsX_mem {ss : List StD} {ts : List TrD} {l : LimD} (hC : Chk ss ts l) {sg : Nat} {L : List Nat} (hL : ∀ x, x ∈ L → x < ss.length) : ∀ c, c ∈ cellsX ss ts sg L → c.length ≤ 100000 := by
  intro c hc
  unfold cellsX at hc
  simp only [List.mem_flatMap, List.mem_map, List.mem_range] at hc
  obtain ⟨x, hx, s, hs, rfl⟩ := hc
  exact rowsX_len hC (hL x hx) _
theorem cellsX_len (ss : List StD) (ts : List TrD) (sg : Nat) (L : List Nat) : (cellsX ss ts sg L).length = L.length * sg := by
  unfold cellsX
  induction L with
  | nil => simp
  | cons x r ih => rw [List.flatMap_cons, List.length_append, ih, List.length_map, List.length_range, List.length_cons, Nat.succ_mul]; omega
theorem leaves_lt (ss : List StD) (n : Nat) : ∀ x, x ∈ leavesOf ss n → x < n := by
  intro x hx
  unfold leavesOf at hx
  exact List.mem_range.1 (List.mem_filter.1 hx).1
theorem leaves_len (ss : List StD) (n : Nat) : (leavesOf ss n).length ≤ n := by
  unfold leavesOf
  have := List.length_filter_le (fun i => decide (ini ss i < 0)) (List.range n)
  simpa using this
theorem stB_len (C : List (List RwD)) : (stB C).length = C.length := by simp [stB]
/-- The table of a chart. -/
def tblX (ss : List StD) (ts : List TrD) (sg : Nat) : TbD := ⟨(sg : Int), leavesOf ss ss.length, stOf (cellsX ss ts sg (leavesOf ss ss.length)), (cellsX ss ts sg (leavesOf ss ss.length)).flatten, ⟨-1, [], bootOf ss, (bootTo ss : Nat)⟩⟩
/-- The table that is made when k states are done, and, of the next, s signals and the first m rows of the signal after them. -/
def tblAt (ss : List StD) (ts : List TrD) (sg : Nat) (Lv : List Nat) (C : List (List RwD)) (m : List RwD) : TbD := ⟨(sg : Int), Lv, stOf C, C.flatten ++ m, ⟨-1, [], bootOf ss, (bootTo ss : Nat)⟩⟩
theorem row_in {w w' X : World} {B : Nat} {tr nx : Int} {ge ce gn cn : Nat} {ex en : List Nat} (h1 : OwnI w w' (.slice (some ⟨ge, 0, none⟩) ex.length ce) ex) (h2 : OwnI w w' (.slice (some ⟨gn, 0, none⟩) en.length cn) en) (hb : Below w'.heap.size w' X) (hB : B ≤ w.heap.size) : RowIn X B ⟨tr, ex, en, nx⟩ [.int .i64 tr, .slice (some ⟨ge, 0, none⟩) ex.length ce, .slice (some ⟨gn, 0, none⟩) en.length cn, .int .i64 nx] :=
  ⟨_, _, rfl, ownsRow_below (ownsRow_base h1 hB) hb, ownsRow_below (ownsRow_base h2 hB) hb⟩
theorem mv_keep {X Z : World} {B C HB o : Nat} {v rv u : Value} {n m : Nat} {xs ys : List Value} {cs : Array Value} (h : X.ownsRow B 120 6 v n xs) (hro : X.ownsRow C 44 4 rv m ys) (hg : X.grownBy Z rv.ownBlock) (hb : X.heap[HB]? = some (.cells cs 46 (0, 0))) : (Z.setCell ⟨HB, o, none⟩ u).ownsRow B 120 6 v n xs := by
  have gP := grown_P hg
  have hz := gP.own h (fun b e e2 => by obtain ⟨ds, hd⟩ := own_has h b e; exact own_tag hro hd (by decide) e2)
  exact (OnlyP.set (P := fun b => b = HB) u rfl).own hz (fun b e e2 => by rw [e2] at e; exact own_tag h hb (by decide) e)
theorem takeX_snoc {ss : List StD} {ts : List TrD} {leaf : Nat} {K : List Nat} {a : Nat} (h : a < K.length) : (K.map (rowX ss ts leaf)).take (a + 1) = (K.map (rowX ss ts leaf)).take a ++ [rowX ss ts leaf (K.getD a 0)] := by
  rw [← List.map_take, ← List.map_take, take_snoc h, List.map_append]; rfl
theorem range_snoc {α : Type} (f : Nat → α) (j : Nat) : (List.range (j + 1)).map f = (List.range j).map f ++ [f j] := by rw [List.range_succ, List.map_append]; rfl
theorem infoRow : (Tryz.prog.info? 44).map (fun i => (i.zero, i.size, i.bytes)) = some (some (.agg #[.int .i64 0, .slice none 0 0, .slice none 0 0, .int .i64 0]), 4, 64) := by kernel_rfl
end Go.Proofs.YtiimkhepplkocaaGreat
