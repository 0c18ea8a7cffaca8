import Derived.Test.YthaklmdhkkfigaaGreatXc
namespace Go.Proofs.YthaklmdhkkfigaaGreat
open Go.RowKit Go.Sort
set_option linter.unusedVariables false
attribute [local go_sem ↓] Go.wp_at_zero Go.wp_at_succ

/-- Records as the walk is told of them. -/
def RecsOf (w : World) (ao : Option Addr) (n : Nat) (rs : List (Int × Int × Int)) : Prop :=
  rs.length = n ∧ (0 < n → ∃ b off, ao = some ⟨b, off, none⟩ ∧ b < w.heap.size ∧ ∀ i, i < n → w.cell? ⟨b, off + i * 3, none⟩ = some (.int .i64 (rs.getD i (0, 0, 0)).1) ∧ w.cell? ⟨b, off + i * 3 + 1, none⟩ = some (.int .i64 (rs.getD i (0, 0, 0)).2.1) ∧ w.cell? ⟨b, off + i * 3 + 2, none⟩ = some (.int .i64 (rs.getD i (0, 0, 0)).2.2))
theorem RecsOf.below {w w' : World} {ao : Option Addr} {n : Nat} {rs : List (Int × Int × Int)} (h : RecsOf w ao n rs) (hb : Below w.heap.size w w') : RecsOf w' ao n rs :=
  ⟨h.1, fun hn => by
    obtain ⟨b, off, e, hlt, hc⟩ := h.2 hn
    refine ⟨b, off, e, Nat.lt_of_lt_of_le hlt hb.size, fun i hi => ?_⟩
    obtain ⟨h1, h2, h3⟩ := hc i hi
    exact ⟨(hb.cell (p := ⟨b, _, none⟩) hlt).trans h1, (hb.cell (p := ⟨b, _, none⟩) hlt).trans h2, (hb.cell (p := ⟨b, _, none⟩) hlt).trans h3⟩⟩
theorem rcC_get : ∀ (es : List (Int × Int × Int)) (k : Nat), k < es.length → (rcC es)[k * 3]? = some (.int .i64 (es.getD k (0, 0, 0)).1) ∧ (rcC es)[k * 3 + 1]? = some (.int .i64 (es.getD k (0, 0, 0)).2.1) ∧ (rcC es)[k * 3 + 2]? = some (.int .i64 (es.getD k (0, 0, 0)).2.2)
  | [], k, h => by simp at h
  | e :: r, 0, _ => ⟨rfl, rfl, rfl⟩
  | e :: r, k + 1, h => by
    obtain ⟨h1, h2, h3⟩ := rcC_get r k (by simpa using h)
    refine ⟨?_, ?_, ?_⟩
    · rw [show (k + 1) * 3 = k * 3 + 3 by omega]; simpa [rcC] using h1
    · rw [show (k + 1) * 3 + 1 = k * 3 + 1 + 3 by omega]; simpa [rcC] using h2
    · rw [show (k + 1) * 3 + 2 = k * 3 + 2 + 3 by omega]; simpa [rcC] using h3
theorem RcRow.recs {w : World} {B n cap : Nat} {ao : Option Addr} {rs : List (Int × Int × Int)} (h : RcRow w B (.slice ao n cap) rs) : RecsOf w ao n rs := by
  rcases h.2 with ⟨h0, h1⟩ | ⟨g, cap', cur, h1, h2, h3, h4⟩
  · simp only [Value.slice.injEq] at h0
    obtain ⟨rfl, rfl, rfl⟩ := h0
    exact ⟨h1, fun h => absurd h (by omega)⟩
  · simp only [Value.slice.injEq] at h1
    obtain ⟨rfl, rfl, rfl⟩ := h1
    refine ⟨rfl, fun hn => ⟨g, 0, rfl, lt_of_block h3, fun i hi => ?_⟩⟩
    obtain ⟨e1, e2, e3⟩ := rcC_get rs i hi
    have c1 := World.ownsRow.cells (g := g) h rfl _ _ e1
    have c2 := World.ownsRow.cells (g := g) h rfl _ _ e2
    have c3 := World.ownsRow.cells (g := g) h rfl _ _ e3
    rw [addr_plus] at c1 c2 c3
    exact ⟨c1, by rw [show 0 + i * 3 + 1 = 0 + (i * 3 + 1) by omega]; exact c2, by rw [show 0 + i * 3 + 2 = 0 + (i * 3 + 2) by omega]; exact c3⟩
/-- A kernel of nothing. -/
abbrev kd0 : KerD := ⟨[], [], [], [], [], []⟩
abbrev ks0 : KerS := ⟨none, 0, 0, none, 0, 0, none, 0, 0, none, 0, 0, none, 0, 0, none, 0, 0⟩
theorem ker0 (w : World) : KerOf w ks0 kd0 := ⟨⟨rfl, fun h => absurd h (by simp)⟩, ⟨rfl, fun h => absurd h (by simp)⟩, ⟨rfl, fun h => absurd h (by simp)⟩, ⟨rfl, fun h => absurd h (by simp)⟩, ⟨rfl, fun h => absurd h (by simp)⟩, ⟨rfl, fun h => absurd h (by simp)⟩⟩
/-- An event is put into a queue: what the kernel is then, and what is recorded. -/
def putK (os : List ObD) (k : KerD) (rs : List (Int × Int × Int)) (i : Nat) (x : Int × Int) : KerD × List (Int × Int × Int) :=
  if (os.getD i ob0).qcap ≤ ((k.qs.getD i []).length : Int) then (k, rs ++ [(2, (i : Int), x.1)]) else ({ k with qs := k.qs.set i (k.qs.getD i [] ++ [x]) }, rs)
/-- What a call of the model answers. -/
def Ans (w w' : World) (e : Ending) (r : KerD × List (Int × Int × Int)) : Prop := ∃ (h' : KerS) (ra : Option Addr) (rn rc : Nat), e = .returned (.tuple #[kerV h', .slice ra rn rc]) ∧ KerOf w' h' r.1 ∧ KerMax h' ∧ RecsOf w' ra rn r.2 ∧ Below w.heap.size w w' ∧ ∃ (B C : Nat) (vs vq vd : List Value), (w.heap.size ≤ B ∧ w.heap.size ≤ C) ∧ Wk w' B (.slice h'.lo h'.ln h'.lc) (.slice h'.vo h'.vn h'.vc) (.slice h'.qo h'.qn h'.qc) (.slice h'.po h'.pn h'.pc) (.slice h'.eo h'.en h'.ec) (.slice h'.fo h'.fn h'.fc) r.1 vs vq vd ∧ RcRow w' C (.slice ra rn rc) r.2
theorem wk_nil (X : World) (B : Nat) : Wk X B nilV nilV nilV nilV nilV nilV kd0 [] [] [] :=
  ⟨World.ownsRow_nil _ _ _ _, ⟨World.ownsRow_nil _ _ _ _, rfl, fun i hi => by simp at hi⟩, ⟨World.ownsRow_nil _ _ _ _, rfl, fun i hi => by simp at hi⟩, ⟨World.ownsRow_nil _ _ _ _, rfl, fun i hi => by simp at hi⟩, World.ownsRow_nil _ _ _ _, World.ownsRow_nil _ _ _ _, fun b e => by simp [Value.ownBlock] at e, fun b e => by simp [Value.ownBlock] at e, fun b e => by simp [Value.ownBlock] at e, fun b e => by simp [Value.ownBlock] at e⟩
abbrev sysV (sg : Int) (eo xo : Option Addr) (en ec xn xc : Nat) : Value := .agg #[.int .i64 sg, .slice eo en ec, .slice xo xn xc]
theorem put6_far {X : World} {H b : Nat} {a c d e f g : Value} (h : b ≠ H) : (put6 X H a c d e f g).heap[b]? = X.heap[b]? := by
  rw [Below.heap_setCell _ _ _ _ h, Below.heap_setCell _ _ _ _ h, Below.heap_setCell _ _ _ _ h, Below.heap_setCell _ _ _ _ h, Below.heap_setCell _ _ _ _ h, Below.heap_setCell _ _ _ _ h]
theorem undrewK {w w' : World} (h : Below w.drew.heap.size w.drew w') : Below w.heap.size w w' := ⟨h.os, h.tape, h.output, h.size, h.block⟩
theorem wk_drew {X w : World} {L V Q D E F : Value} {k : KerD} {vs vq vd : List Value} (h : Wk X w.drew.heap.size L V Q D E F k vs vq vd) : Wk X w.heap.size L V Q D E F k vs vq vd := h
theorem Wk.box {X : World} {B : Nat} {sv ov tv L V Q D E F : Value} {k : KerD} {vs vq vd : List Value} (h : Wk X B L V Q D E F k vs vq vd) (hB : B ≤ X.heap.size) : Wb (X.alloc (.cells #[sv, ov, tv, L, V, Q, D, E, F, nilV] 65)) B X.heap.size sv ov tv L V Q D E F nilV k vs vq vd [] :=
  ⟨heap_alloc_new _ _, hB, h.below (below1 _ _), World.ownsRow_nil _ _ _ _⟩
end Go.Proofs.YthaklmdhkkfigaaGreat
