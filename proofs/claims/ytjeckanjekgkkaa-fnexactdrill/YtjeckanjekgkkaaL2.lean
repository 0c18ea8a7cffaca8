import Derived.Test.YtjeckanjekgkkaaL1
import Derived.Test.YtjeckanjekgkkaaK10
namespace Go.Proofs.Ytjeckanjekgkkaa
open Go.RowKit Go.Sort
attribute [local go_sem ↓] Go.wp_at_zero Go.wp_at_succ

theorem own_slice {w : World} {B g n cap : Nat} {l : List Nat} (h : w.ownsRow B 3 1 (.slice (some ⟨g, 0, none⟩) n cap) l.length (ints l)) (hn : n = l.length) : SliceOf w (some ⟨g, 0, none⟩) n (l.map fun (x : Nat) => (x : Int)) := by
  subst hn
  refine ⟨by simp, fun h0 => ⟨g, 0, rfl, ?_, fun i hi => ?_⟩⟩
  · obtain ⟨g', cap', e, _, h3⟩ := World.ownsRow.form h h0
    simp at e
    rw [e.1]
    exact h3
  · rw [Nat.zero_add, World.ownsRow.cellAt h i (by omega)]
    simp [ints, List.getD_eq_getElem?_getD, hi]
theorem own_row {w : World} {B g n cap : Nat} {l : List Nat} (h : w.ownsRow B 3 1 (.slice (some ⟨g, 0, none⟩) n cap) l.length (ints l)) (hn : n = l.length) : ∃ F, ∃ m, n ≤ m ∧ w.rowIs g 3 m F ∧ ∀ j, j < n → ∃ z, F j = .int .i64 z := by
  subst hn
  rcases h.2 with ⟨h0, _⟩ | ⟨g', cap', cur, e, _, h3, h4, _, h6, h7⟩
  · simp at h0
  · simp at e
    obtain ⟨rfl, rfl⟩ := e
    refine ⟨fun j => cur.getD j (.int .i64 0), cap, h4, ⟨cur, h3, by omega, fun i hi => ?_⟩, fun j hj => ?_⟩
    · simp [show i < cur.size by omega]
    · have hl := h.1
      have h8 : (ints l)[j]? = cur.toList[j]? := by rw [← h7, List.getElem?_take, if_pos (by omega)]
      have h9 : j < l.length := by rw [ints_len] at hl; omega
      have h10 : cur.getD j (.int .i64 0) = .int .i64 ((l[j] : Nat) : Int) := by
        have : cur.toList[j]? = some (.int .i64 ((l[j] : Nat) : Int)) := by rw [← h8]; simp [ints, h9]
        simp at this
        simp [Array.getD_eq_getD_getElem?, this]
      exact ⟨_, h10⟩
theorem mk_own {L : Nat} {w w' : World} {B : Nat} {v : Value} {n : Nat} {xs : List Value} (hm : Mk L w w') (h : w.ownsRow B 3 1 v n xs) : w'.ownsRow B 3 1 v n xs := by
  refine ⟨h.1, ?_⟩
  rcases h.2 with h0 | ⟨g, cap, cur, h1, h2, h3, h4⟩
  · exact .inl h0
  · exact .inr ⟨g, cap, cur, h1, h2, hm.box h3 (by decide) (by decide) (by decide) (by decide), h4⟩
theorem own_zero {w w' : World} {v : Value} {l : List Nat} (h : OwnI w w' v l) : w'.ownsRow 0 3 1 v l.length (ints l) :=
  ⟨h.1, h.2.imp id fun ⟨g, cap, cur, h1, _, h3⟩ => ⟨g, cap, cur, h1, Nat.zero_le _, h3⟩⟩

/-- What the law knows behind the program's call. -/
structure Bun (w wX : World) (bx : Array Value) (H : Nat) (v1 v2 vs vi : Value) (l : List Nat) (es : List StD) (xs : List TrD) : Prop where
  bel : Below w.heap.size w wX
  box : wX.heap[w.heap.size]? = some (.cells bx 25 (0, 0))
  var : wX.heap[H]? = some (.cells #[v1, v2] 32 (0, 0))
  os : wX.ownsRow 0 3 1 vs l.length (ints l)
  oi : wX.ownsRow 0 3 1 vi l.length (ints l)
  tt : TT wX w.heap.size v1 es
  tr : TR wX w.heap.size v2 xs
theorem Bun.below {w wX wY : World} {bx : Array Value} {H : Nat} {v1 v2 vs vi : Value} {l : List Nat} {es : List StD} {xs : List TrD} (h : Bun w wX bx H v1 v2 vs vi l es xs) (hb : Below wX.heap.size wX wY) : Bun w wY bx H v1 v2 vs vi l es xs :=
  ⟨h.bel.trans (hb.mono h.bel.size), block_below h.box hb, block_below h.var hb, ownsRow_below h.os hb, ownsRow_below h.oi hb, h.tt.of_below hb, h.tr.of_below hb⟩
theorem Bun.mk' {w wX wY : World} {bx : Array Value} {H : Nat} {v1 v2 vs vi : Value} {l : List Nat} {es : List StD} {xs : List TrD} (h : Bun w wX bx H v1 v2 vs vi l es xs) (hm : Mk w.heap.size wX wY) : Bun w wY bx H v1 v2 vs vi l es xs :=
  ⟨h.bel.trans hm.below, hm.box h.box (by decide) (by decide) (by decide) (by decide), hm.box h.var (by decide) (by decide) (by decide) (by decide), mk_own hm h.os, mk_own hm h.oi, hm.tt _ _ h.tt, hm.tr _ _ h.tr⟩
theorem draws_below (w : World) (q : Nat) : Below w.heap.size w (w.drewN q) := belowDraws (Below.refl _ _) q

theorem ansA_len (ss : List StD) (tn : Nat) (x : Int) : (ansA ss tn x).length ≤ 1000 := by
  unfold ansA
  split
  · rename_i h
    obtain ⟨G, k, rfl, hk⟩ := ask_good h
    have := up_len G.tree k hk
    have := G.n2
    rw [Int.toNat_natCast]
    omega
  · simp
theorem ansD_len (ss : List StD) (tn : Nat) (x : Int) : (ansD ss tn x).length ≤ 1000 := by
  unfold ansD
  split
  · rename_i h
    obtain ⟨G, k, rfl, hk⟩ := ask_good h
    have := down_len G (ss.length - k) k hk rfl
    have := G.n2
    rw [Int.toNat_natCast]
    omega
  · simp

/-- The copy, with what a marking wants of it. -/
theorem toChart_full (eo xo : Option Addr) (en ec xn xc : Nat) (es : List StD) (xs : List TrD) (L : Nat) (w : World) (hL : L ≤ w.heap.size) (fe : FitsSt es) (fx : FitsTr xs) (he : StatesOf w eo en es) (hx : TransOf w xo xn xs) :
    Calls Try.prog 8 #[.agg #[.slice eo en ec, .slice xo xn xc]] w fun e w' => ∃ g1 g2, e = .returned (.agg #[.slice (some ⟨g1, 0, none⟩) en en, .slice (some ⟨g2, 0, none⟩) xn xn]) ∧
      (StatesOf w' (some ⟨g1, 0, none⟩) en es ∧ TransOf w' (some ⟨g2, 0, none⟩) xn xs) ∧ (TT w' L (.slice (some ⟨g1, 0, none⟩) en en) es ∧ TR w' L (.slice (some ⟨g2, 0, none⟩) xn xn) xs) ∧ Below w.heap.size w w' :=
  (toChart_any eo xo en ec xn xc es xs w fe fx he hx).mono (by
    rintro e w' ⟨g1, g2, rfl, h1, h2, hb⟩
    obtain ⟨q1, e1, s1⟩ := h1.states fe
    obtain ⟨q2, e2, s2⟩ := h2.trans fx
    have t1 := (h1.mono hL).tt
    have t2 := (h2.mono hL).tr
    simp at e1 e2
    obtain ⟨rfl, rfl, _⟩ := e1
    obtain ⟨rfl, rfl, _⟩ := e2
    exact ⟨g1, g2, rfl, ⟨s1, s2⟩, ⟨t1, t2⟩, hb⟩)
theorem eqIntS_yes (ao bo : Option Addr) (n c d : Nat) (zs : List Int) (w : World) (hn : n ≤ 1048576) (hx : SliceOf w ao n zs) (hy : SliceOf w bo n zs) :
    Calls Try.prog 10 #[.slice ao n c, .slice bo n d] w fun e w' => e = .returned (.bool true) ∧ Below w.heap.size w w' :=
  (eqIntS_any ao bo n n c d zs zs w hn (by omega) hx hy).mono (by
    rintro e w' ⟨rfl, q, rfl⟩
    exact ⟨by simp, draws_below w q⟩)
end Go.Proofs.Ytjeckanjekgkkaa
