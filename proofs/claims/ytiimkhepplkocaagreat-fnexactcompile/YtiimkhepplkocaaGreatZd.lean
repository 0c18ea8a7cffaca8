import Derived.Test.YtiimkhepplkocaaGreatZf
import Derived.WideMake
namespace Go.Proofs.YtiimkhepplkocaaGreat
open Go.RowKit Go.Sort
set_option linter.unusedVariables false
attribute [local go_sem ↓] Go.wp_at_zero Go.wp_at_succ

/-- A transition's way out of a leaf. -/
def exX (ss : List StD) (leaf : Nat) (t : TrD) : List Nat := if t.target = -1 then [] else exitsOf ss leaf t.src.toNat t.target.toNat
def enX (ss : List StD) (t : TrD) : List Nat := if t.target = -1 then [] else entersOf ss t.src.toNat t.target.toNat
def nxX (ss : List StD) (leaf : Nat) (t : TrD) : Nat := if t.target = -1 then leaf else nextOf ss t.src.toNat t.target.toNat
def runX (ss : List StD) (leaf : Nat) (t : TrD) : List (List StmD) := (exX ss leaf t).map (fun i => (ss.getD i st0).exit) ++ [t.action] ++ (enX ss t).map (fun i => (ss.getD i st0).entry)
theorem cands_mem {ts : List TrD} {l : List Nat} {sg : Int} {q : Nat} (h : q ∈ cands ts l sg) : q < ts.length ∧ ∃ s, s ∈ l ∧ (ts.getD q tr0).src = (s : Int) ∧ (ts.getD q tr0).sig = sg := by
  unfold cands candS fits at h
  simp only [List.mem_flatMap, List.mem_filter, List.mem_range, Bool.and_eq_true, decide_eq_true_eq] at h
  obtain ⟨s, hs, hq, h1, h2⟩ := h
  exact ⟨hq, s, hs, h1, h2⟩
structure Way (ss : List StD) (ts : List TrD) (leaf q : Nat) : Prop where
  lt : q < ts.length
  src : (ts.getD q tr0).src.toNat ∈ up ss leaf
  ex : (exX ss leaf (ts.getD q tr0)).length ≤ 400
  en : (enX ss (ts.getD q tr0)).length ≤ 400
  exm : ∀ x, x ∈ exX ss leaf (ts.getD q tr0) → x < ss.length
  enm : ∀ x, x ∈ enX ss (ts.getD q tr0) → x < ss.length
theorem way_of {ss : List StD} {ts : List TrD} {l : LimD} (hC : Chk ss ts l) {leaf : Nat} (hl : leaf < ss.length) {sg : Int} {q : Nat} (h : q ∈ cands ts (up ss leaf) sg) : Way ss ts leaf q := by
  obtain ⟨hq, s, hs, h1, _⟩ := cands_mem h
  have G := hC.good
  have T := G.tree
  have hsr : (ts.getD q tr0).src.toNat ∈ up ss leaf := by rw [h1]; simpa using hs
  have n2 := G.n2
  refine ⟨hq, hsr, ?_, ?_, ?_, ?_⟩
  · unfold exX
    split
    · simp
    · unfold exitsOf
      have := below_len T hl (dom ss (ts.getD q tr0).src.toNat (ts.getD q tr0).target.toNat)
      omega
  · unfold enX
    split
    · simp
    · rename_i hne
      have ht := hC.tgt q hq
      have htl : (ts.getD q tr0).target.toNat < ss.length := by omega
      unfold entersOf
      have h3 := below_len T htl (dom ss (ts.getD q tr0).src.toNat (ts.getD q tr0).target.toNat)
      have h4 := down_len G _ _ htl rfl
      rw [List.length_append, List.length_reverse]
      omega
  · intro x hx
    unfold exX at hx
    split at hx
    · simp at hx
    · exact below_lt T hl _ x hx
  · intro x hx
    unfold enX at hx
    split at hx
    · simp at hx
    · rename_i hne
      have ht := hC.tgt q hq
      have htl : (ts.getD q tr0).target.toNat < ss.length := by omega
      unfold entersOf at hx
      rcases List.mem_append.mp hx with h5 | h5
      · exact below_lt T htl _ x (by simpa using h5)
      · exact down_lt G _ _ htl rfl x h5
theorem header_q {ss : List StD} {ts : List TrD} {l : LimD} (hC : Chk ss ts l) (N : Nat → Nat) {leaf : Nat} (hl : leaf < ss.length) {q : Nat} (h : Way ss ts leaf q) (lets act : Nat → Value) (w : World) (hN : NodesI w N ss ss.length) (hNB : NodeB w N ss.length) :
    Calls Tryz.prog 47 #[.agg (mvC N ts lets act q).toArray, .pointer (some ⟨N leaf, 0, none⟩)] w fun e w' => ∃ ge ce gn cn, e = .returned (.agg #[.int .i64 (q : Int), .slice (some ⟨ge, 0, none⟩) (exX ss leaf (ts.getD q tr0)).length ce, .slice (some ⟨gn, 0, none⟩) (enX ss (ts.getD q tr0)).length cn, .int .i64 (nxX ss leaf (ts.getD q tr0) : Nat)]) ∧
      OwnI w w' (.slice (some ⟨ge, 0, none⟩) (exX ss leaf (ts.getD q tr0)).length ce) (exX ss leaf (ts.getD q tr0)) ∧ OwnI w w' (.slice (some ⟨gn, 0, none⟩) (enX ss (ts.getD q tr0)).length cn) (enX ss (ts.getD q tr0)) ∧ ge ≠ gn ∧ Below w.heap.size w w' := by
  have hs := hC.src q h.lt
  have ht := hC.tgt q h.lt
  by_cases he : (ts.getD q tr0).target = -1
  · have k := header_in N ss leaf hl (q : Int) (ts.getD q tr0).sig (.pointer (some ⟨N (ts.getD q tr0).src.toNat, 0, none⟩)) (lets q) (act q) w hN.1
    have e : mvC N ts lets act q = [.int .i64 (q : Int), .int .i64 (ts.getD q tr0).sig, .pointer (some ⟨N (ts.getD q tr0).src.toNat, 0, none⟩), .pointer none, lets q, act q] := by unfold mvC tgtV; rw [if_pos he]
    rw [e]
    unfold exX enX nxX
    rw [if_pos he, if_pos he, if_pos he]
    exact k.mono (by
      rintro e w' ⟨ge, gn, rfl, h1, h2, h3, h4⟩
      exact ⟨ge, 0, gn, 0, rfl, h1, h2, h3, h4⟩)
  · have hf : (ts.getD q tr0).src.toNat < ss.length := by omega
    have htl : (ts.getD q tr0).target.toNat < ss.length := by omega
    have k := header_to N ss ts.length hC.good leaf (ts.getD q tr0).src.toNat (ts.getD q tr0).target.toNat hl hf htl h.src (q : Int) (ts.getD q tr0).sig (lets q) (act q) w hN hNB
    have e : mvC N ts lets act q = [.int .i64 (q : Int), .int .i64 (ts.getD q tr0).sig, .pointer (some ⟨N (ts.getD q tr0).src.toNat, 0, none⟩), .pointer (some ⟨N (ts.getD q tr0).target.toNat, 0, none⟩), lets q, act q] := by unfold mvC tgtV; rw [if_neg he]
    rw [e]
    unfold exX enX nxX
    rw [if_neg he, if_neg he, if_neg he]
    exact k

/-- All that isn't the map of cells stays. -/
structure ButM (P : Nat) (w w' : World) : Prop where
  os : w'.os = w.os
  tape : w'.tape = w.tape
  output : w'.output = w.output
  size : w.heap.size ≤ w'.heap.size
  block : ∀ k, k < w.heap.size → k ≠ P → w'.heap[k]? = w.heap[k]?
theorem ButM.below {P C : Nat} {w w' : World} (h : ButM P w w') (hP : C ≤ P) (hC : C ≤ w.heap.size) : Below C w w' := ⟨h.os, h.tape, h.output, h.size, fun k hk => h.block k (by omega) (by omega)⟩
theorem ButM.box {P : Nat} {w w' : World} (h : ButM P w w') (hm : ∃ es c, w.heap[P]? = some (.map es c)) {H : Nat} {cs : Array Value} {t : TypeId} {fr : Nat × Nat} (hb : w.heap[H]? = some (.cells cs t fr)) : w'.heap[H]? = some (.cells cs t fr) := by
  obtain ⟨es, c, hm⟩ := hm
  exact (h.block H (lt_of_block hb) (fun e => by rw [e, hm] at hb; cases hb)).trans hb
theorem ButM.own {P B : Nat} {w w' : World} {e : TypeId} {size : Nat} {v : Value} {n : Nat} {xs : List Value} (h : ButM P w w') (hm : ∃ es c, w.heap[P]? = some (.map es c)) (ho : w.ownsRow B e size v n xs) : w'.ownsRow B e size v n xs := by
  refine ⟨ho.1, ?_⟩
  rcases ho.2 with h0 | ⟨g, cap, cur, k1, k2, k3, k4⟩
  · exact .inl h0
  · exact .inr ⟨g, cap, cur, k1, k2, h.box hm k3, k4⟩
theorem Lists.of {X Y : World} {l : LimD} {P : Nat} {lv : Value} {LS : List Value} {xs : List (List StmD)} (h : Lists X l P lv LS xs) (hb : X.heap[P]? = some (.cells #[lv] 105 (0, 0)) → Y.heap[P]? = some (.cells #[lv] 105 (0, 0))) (ho : ∀ {B : Nat} {e : TypeId} {v : Value} {n : Nat} {xs : List Value}, (e = 118 ∨ e = 212) → X.ownsRow B e 1 v n xs → Y.ownsRow B e 1 v n xs) : Lists Y l P lv LS xs :=
  ⟨hb h.box, ho (.inl rfl) h.row, h.len, fun i hi => by
    obtain ⟨vs, h1, h2⟩ := h.each i hi
    exact ⟨vs, h1, ho (.inr rfl) h2⟩⟩
/-- A row that can be run: its six cells. -/
def RowAt (X : World) (ss : List StD) (ts : List TrD) (l : LimD) (leaf : Nat) (lets : Nat → Value) (q : Nat) (c : List Value) : Prop :=
  ∃ ev nv P lv LS, c = [.int .i64 (q : Int), ev, nv, .int .i64 (nxX ss leaf (ts.getD q tr0) : Nat), .func (.func 163) #[] #[.pointer (some ⟨P, 0, none⟩)], lets q] ∧ (∃ a n c, ev = .slice a n c) ∧ (∃ a n c, nv = .slice a n c) ∧ LS.length ≤ 1000 ∧ Lists X l P lv LS (runX ss leaf (ts.getD q tr0))
def SG (t : Nat) : Prop := t = 196
theorem Lists.turn {B : Nat} {X Y : World} {l : LimD} {P : Nat} {lv : Value} {LS : List Value} {xs : List (List StmD)} (h : Lists X l P lv LS xs) (ht : Turn SG B X Y) : Lists Y l P lv LS xs :=
  h.of (fun hb => ht.box hb (by simp [SG])) (fun he ho => ht.own ho (by rcases he with rfl | rfl <;> simp [SG]))
theorem RowAt.turn {B : Nat} {X Y : World} {ss : List StD} {ts : List TrD} {l : LimD} {leaf : Nat} {lets : Nat → Value} {q : Nat} {c : List Value} (h : RowAt X ss ts l leaf lets q c) (ht : Turn SG B X Y) : RowAt Y ss ts l leaf lets q c := by
  obtain ⟨ev, nv, P, lv, LS, h1, h2, h3, h4, h5⟩ := h
  exact ⟨ev, nv, P, lv, LS, h1, h2, h3, h4, h5.turn ht⟩
theorem RowAt.but {M : Nat} {X Y : World} {ss : List StD} {ts : List TrD} {l : LimD} {leaf : Nat} {lets : Nat → Value} {q : Nat} {c : List Value} (h : RowAt X ss ts l leaf lets q c) (ht : ButM M X Y) (hm : ∃ es c, X.heap[M]? = some (.map es c)) : RowAt Y ss ts l leaf lets q c := by
  obtain ⟨ev, nv, P, lv, LS, h1, h2, h3, h4, h5⟩ := h
  exact ⟨ev, nv, P, lv, LS, h1, h2, h3, h4, h5.of (fun hb => ht.box hm hb) (fun _ ho => ht.own hm ho)⟩
/-- The rows of a cell. -/
def Gr (X : World) (B : Nat) (ss : List StD) (ts : List TrD) (l : LimD) (leaf : Nat) (lets : Nat → Value) (K : List Nat) (v : Value) : Prop :=
  ∃ R : List (List Value), R.length = K.length ∧ X.ownsRow B 196 6 v K.length R.flatten ∧ ∀ i, i < K.length → RowAt X ss ts l leaf lets (K.getD i 0) (R.getD i [])
theorem Gr.below {X Y : World} {B : Nat} {ss : List StD} {ts : List TrD} {l : LimD} {leaf : Nat} {lets : Nat → Value} {K : List Nat} {v : Value} (h : Gr X B ss ts l leaf lets K v) (hb : Below X.heap.size X Y) : Gr Y B ss ts l leaf lets K v := by
  obtain ⟨R, h1, h2, h3⟩ := h
  exact ⟨R, h1, ownsRow_below h2 hb, fun i hi => (h3 i hi).turn (B := 0) (Turn.of_below hb)⟩
theorem Gr.but {M : Nat} {X Y : World} {B : Nat} {ss : List StD} {ts : List TrD} {l : LimD} {leaf : Nat} {lets : Nat → Value} {K : List Nat} {v : Value} (h : Gr X B ss ts l leaf lets K v) (ht : ButM M X Y) (hm : ∃ es c, X.heap[M]? = some (.map es c)) : Gr Y B ss ts l leaf lets K v := by
  obtain ⟨R, h1, h2, h3⟩ := h
  exact ⟨R, h1, ht.own hm h2, fun i hi => (h3 i hi).but ht hm⟩
theorem Gr.add {Y Z : World} {B : Nat} {ss : List StD} {ts : List TrD} {l : LimD} {leaf : Nat} {lets : Nat → Value} {K : List Nat} {v v' : Value} {q : Nat} {c : List Value} {R : List (List Value)} (hR : R.length = K.length) (ho : Y.ownsRow B 196 6 v K.length R.flatten) (hr : ∀ i, i < K.length → RowAt Y ss ts l leaf lets (K.getD i 0) (R.getD i [])) (hc : RowAt Y ss ts l leaf lets q c)
    (hg : Y.grownBy Z v.ownBlock) (ho' : Z.ownsRow B 196 6 v' (K.length + 1) (R.flatten ++ c)) : Gr Z B ss ts l leaf lets (K ++ [q]) v' := by
  have T := Turn.grown ho (S := SG) rfl hg
  refine ⟨R ++ [c], by simp [hR], by simpa using ho', fun i hi => ?_⟩
  simp only [List.getD_eq_getElem?_getD]
  by_cases h : i < K.length
  · rw [List.getElem?_append_left h, List.getElem?_append_left (by omega)]
    simpa only [List.getD_eq_getElem?_getD] using (hr i h).turn T
  · obtain rfl : i = K.length := by simp at hi; omega
    rw [List.getElem?_append_right (Nat.le_refl _), List.getElem?_append_right (by omega)]
    simpa [hR] using hc.turn T
end Go.Proofs.YtiimkhepplkocaaGreat
namespace Go.Proofs.YtiimkhepplkocaaGreat
open Go.RowKit Go.Sort
set_option linter.unusedVariables false
attribute [local go_sem ↓] Go.wp_at_zero Go.wp_at_succ

structure Cw (w : World) (k : Nat) (sg : Int) (N : Nat → Nat) (ts : List TrD) (lets act : Nat → Value) (K : List Nat) (mv : Value) (X : World) : Prop where
  bel : Below w.heap.size w X
  cr : X.heap[w.heap.size]? = some (.cells #[.int .i64 (k : Int), .int .i64 sg] 243 (0, 0))
  mv : X.ownsRow w.heap.size 120 6 mv K.length (mvs N ts lets act K)
theorem Cw.below {w : World} {k : Nat} {sg : Int} {N : Nat → Nat} {ts : List TrD} {lets act : Nat → Value} {K : List Nat} {mv : Value} {X Y : World} (h : Cw w k sg N ts lets act K mv X) (hb : Below X.heap.size X Y) : Cw w k sg N ts lets act K mv Y := ⟨h.bel.trans (hb.mono h.bel.size), block_below h.cr hb, ownsRow_below h.mv hb⟩
theorem Cw.turn {w : World} {k : Nat} {sg : Int} {N : Nat → Nat} {ts : List TrD} {lets act : Nat → Value} {K : List Nat} {mv : Value} {X Y : World} (h : Cw w k sg N ts lets act K mv X) (ht : Turn SG w.heap.size X Y) : Cw w k sg N ts lets act K mv Y := ⟨h.bel.trans (ht.below h.bel.size), ht.box h.cr (by simp [SG]), ht.own h.mv (by simp [SG])⟩
theorem take_snoc {K : List Nat} {a : Nat} (h : a < K.length) : K.take (a + 1) = K.take a ++ [K.getD a 0] := by
  rw [List.take_add_one, List.getD_eq_getElem?_getD, List.getElem?_eq_getElem h]; rfl

end Go.Proofs.YtiimkhepplkocaaGreat
namespace Go.Proofs.YtiimkhepplkocaaGreat
open Go.RowKit Go.Sort
set_option linter.unusedVariables false
attribute [local go_sem ↓] Go.wp_at_zero Go.wp_at_succ

theorem Mom.but {P : Nat} {w w' : World} {B mb : Nat} {ks vs : List Int} {arg : Int} {es : List EffD} (h : Mom w B mb ks vs arg es) (hb : ButM P w w') (hm : ∃ es c, w.heap[P]? = some (.map es c)) : Mom w' B mb ks vs arg es := by
  obtain ⟨kg, kc, vg, vc, ev, h1, h2, h3, h4, h5, h6, h7⟩ := h
  exact ⟨kg, kc, vg, vc, ev, hb.box hm h1, ⟨hb.own hm h2.1, h2.2⟩, ⟨hb.own hm h3.1, h3.2⟩, h4, h5, hb.own hm h6, h7⟩
end Go.Proofs.YtiimkhepplkocaaGreat
namespace Go.Proofs.YtiimkhepplkocaaGreat
open Go.RowKit Go.Sort
set_option linter.unusedVariables false
attribute [local go_sem ↓] Go.wp_at_zero Go.wp_at_succ

theorem ButM.more {P : Nat} {w X Y : World} {C : Nat} (h : ButM P w X) (hb : Below C X Y) (hC : w.heap.size ≤ C) : ButM P w Y := ⟨hb.os.trans h.os, hb.tape.trans h.tape, hb.output.trans h.output, Nat.le_trans h.size hb.size, fun k hk hn => (hb.block k (by omega)).trans (h.block k hk hn)⟩
theorem ButM.refl (P : Nat) (w : World) : ButM P w w := ⟨rfl, rfl, rfl, Nat.le_refl _, fun _ _ _ => rfl⟩
theorem ButM.of_below {P : Nat} {w X : World} (h : Below w.heap.size w X) : ButM P w X := ⟨h.os, h.tape, h.output, h.size, fun k hk _ => h.block k hk⟩
theorem ButM.after {P : Nat} {w X Y : World} (h : Below w.heap.size w X) (k : ButM P X Y) : ButM P w Y := ⟨k.os.trans h.os, k.tape.trans h.tape, k.output.trans h.output, Nat.le_trans h.size k.size, fun i hi hn => (k.block i (Nat.lt_of_lt_of_le hi h.size) hn).trans (h.block i hi)⟩
/-- What a step keeps while it looks for a row. -/
structure St (w : World) (P mb B C : Nat) (ss : List StD) (ts : List TrD) (l : LimD) (leaf : Nat) (lets : Nat → Value) (ks vs : List Int) (arg : Int) (K : List Nat) (rv : Value) (X : World) : Prop where
  but : ButM P w X
  zb : X.heap[w.heap.size + 1 + 1]? = some (.cells #[.slice none 0 0, .slice none 0 0] 32 (0, 0))
  mom : Mom X B mb ks vs arg []
  gr : Gr X C ss ts l leaf lets K rv
  gd : ∀ q, q < ts.length → GuardAt X 0 l.v (ts.getD q tr0).guard (lets q)
theorem St.below {w : World} {P mb B C : Nat} {ss : List StD} {ts : List TrD} {l : LimD} {leaf : Nat} {lets : Nat → Value} {ks vs : List Int} {arg : Int} {K : List Nat} {rv : Value} {X Y : World} (h : St w P mb B C ss ts l leaf lets ks vs arg K rv X) (hb : Below X.heap.size X Y) : St w P mb B C ss ts l leaf lets ks vs arg K rv Y :=
  ⟨h.but.more hb h.but.size, block_below h.zb hb, h.mom.below hb, h.gr.below hb, fun q hq => (h.gd q hq).below hb⟩
theorem flat6 {R : List (List Value)} {m : Nat} (hl : ∀ i, i < R.length → (R.getD i []).length = 6) : ∀ {i j : Nat}, i < R.length → j < 6 → R.flatten[i * 6 + j]? = (R.getD i [])[j]? := by
  induction R with
  | nil => intro i j hi; simp at hi
  | cons x r ih =>
    intro i j hi hj
    have hx : x.length = 6 := by simpa using hl 0 (by simp)
    cases i with
    | zero => rw [List.flatten_cons]; simp only [Nat.zero_mul, Nat.zero_add, List.getD_cons_zero]; exact List.getElem?_append_left (by omega)
    | succ i =>
      rw [List.flatten_cons, show (i + 1) * 6 + j = 6 + (i * 6 + j) by omega, List.getElem?_append_right (by omega), hx, show 6 + (i * 6 + j) - 6 = i * 6 + j by omega]
      have := ih (fun q hq => by simpa using hl (q + 1) (by simpa using hq)) (i := i) (j := j) (by simpa using hi) hj
      simpa using this
/-- The cells of a row. -/
theorem Gr.cells {X : World} {C : Nat} {ss : List StD} {ts : List TrD} {l : LimD} {leaf : Nat} {lets : Nat → Value} {K : List Nat} {ao : Option Addr} {m c : Nat} (h : Gr X C ss ts l leaf lets K (.slice ao m c)) {a : Nat} (ha : a < K.length) :
    ∃ g ev en ec nv nn nc P lv LS, ao = some ⟨g, 0, none⟩ ∧ X.cell? ⟨g, a * 6, none⟩ = some (.int .i64 (K.getD a 0 : Nat)) ∧ X.cell? ⟨g, a * 6 + 1, none⟩ = some (.slice ev en ec) ∧ X.cell? ⟨g, a * 6 + 2, none⟩ = some (.slice nv nn nc) ∧ X.cell? ⟨g, a * 6 + 3, none⟩ = some (.int .i64 (nxX ss leaf (ts.getD (K.getD a 0) tr0) : Nat)) ∧ X.cell? ⟨g, a * 6 + 4, none⟩ = some (.func (.func 163) #[] #[.pointer (some ⟨P, 0, none⟩)]) ∧ X.cell? ⟨g, a * 6 + 5, none⟩ = some (lets (K.getD a 0)) ∧
      LS.length ≤ 1000 ∧ Lists X l P lv LS (runX ss leaf (ts.getD (K.getD a 0) tr0)) := by
  obtain ⟨R, h1, h2, h3⟩ := h
  obtain ⟨g, cap, hv, _, _⟩ := World.ownsRow.form h2 (by omega)
  have hao : ao = some ⟨g, 0, none⟩ ∧ m = K.length ∧ c = cap := by simpa using hv
  obtain ⟨rfl, rfl, rfl⟩ := hao
  obtain ⟨_, _, P, lv, LS, hc, ⟨ev, en, ec, rfl⟩, ⟨nv, nn, nc, rfl⟩, h5, h6⟩ := h3 a ha
  have h6l : ∀ i, i < R.length → (R.getD i []).length = 6 := fun i hi => by
    obtain ⟨_, _, _, _, _, e, _⟩ := h3 i (by omega)
    rw [e]; rfl
  have cell : ∀ j, j < 6 → X.cell? ⟨g, a * 6 + j, none⟩ = (R.getD a [])[j]? := fun j hj => by
    rw [World.ownsRow.cellAt h2 (a * 6 + j) (by omega), flat6 (m := 0) h6l (by omega) hj]
  rw [hc] at cell
  exact ⟨g, ev, en, ec, nv, nn, nc, P, lv, LS, rfl, cell 0 (by omega), cell 1 (by omega), cell 2 (by omega), cell 3 (by omega), cell 4 (by omega), cell 5 (by omega), h5, h6⟩
end Go.Proofs.YtiimkhepplkocaaGreat
